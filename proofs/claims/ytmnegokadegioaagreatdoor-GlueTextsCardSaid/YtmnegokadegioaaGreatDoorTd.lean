/-
 Functions of the tokenizer, followed. Nothing is claimed here.
-/
import Derived.Test.YtmnegokadegioaaGreatDoorTa
import Derived.Test.YtmnegokadegioaaGreatDoorOb
import Derived.Test.YtmnegokadegioaaGreatDoorSa2
namespace Go.Proofs.YtmnegokadegioaaGreatDoor
open Go.Vm Go.Sx Go.RowKit
variable {ro:Nat}
def marksL:List Int:=[0,0,0,0,0,0,0,0,0,0,0,0,0,0,0,0,0,0,0,0,0,0,0,0,0,0,0,0,0,0,0,0,0,0,0,0,0,0,0,0,21,22,0,0,18,0,0,0,0,0,0,0,0,0,0,0,0,0,16,17,0,0,0,0,0,0,0,0,0,0,0,0,0,0,0,0,0,0,0,0,0,0,0,0,0,0,0,0,0,0,0,19,0,20,0,0,0,0,0,0,0,0,0,0,0,0,0,0,0,0,0,0,0,0,0,0,0,0,0,0,0,0,0,23,0,24]
def GT:Gl
 | 0=>some (.u8,marksL)
 | _=>none
noncomputable def ovD (ro:Nat):Ov:=ovA ro
abbrev FO (ro:Nat) (f:FuncId) (pt:List W→(W→Prop)→Prop):Prop:=FnOK sy Tryz.prog GT (ovD ro) ro f pt
def noT (_:List W) (_:W→Prop):Prop:=False
theorem jgz {ro:Nat} (f:FuncId):FO ro f noT:=fun _ _ _ h=>h.elim
theorem Zgz {ro:Nat}:∀args st v st',zhB Tryz.prog 83 44 ro 83 args st=some (v,st')→ovD ro 83 args st=some (v,st'):=fun args st v st' h=>by
 unfold ovD ovA ov2 ovN;show (match (none:Option (V×St)) with|some r=>some r|none=>match zhB Tryz.prog 83 44 ro 83 args st with|some r=>some r|none=>_)=_
 rw [h]
abbrev Ja:=Bt→Int→(Int→Prop)→Prop
def Jd (A:Ja) (us:List W) (k:W→Prop):Prop:=match us with
 | [.s a0,.i .i64 a1]=>A a0 a1 (fun r0=>k (.i .u8 r0))
 | _=>False
theorem JdB {A A2:Ja} (h:FO ro 120 (Jd A)) (hA:∀a0 a1 K,A2 a0 a1 K→A a0 a1 K):FO ro 120 (Jd A2):=h.weak (by
 intro us k h;unfold Jd at h ⊢;split at h
 ·exact hA _ _ _ h
 ·exact h.elim)
def jca (a0:Bt) (a1:Int) (K:Int→Prop):Prop:=
 (((decide (a1<(a0.length:Int)))=true→((0≤a1∧a1<(a0.length:Int))∧K ((a0.getD a1.toNat 0).toNat:Int)))∧((decide (a1<(a0.length:Int)))=false→K (0:Int)))
def zcS:Zj sg:=tab []
theorem zeS (o0:Nat→Prop):JB sy Tryz.prog GT (ovD ro) o0 ro (zcS):=jd o0
theorem jeS (a0:Bt) (a1:Int) (k:W→Prop):fnT sy Tryz.prog GT (zcS) noL Tryz.f120.ntmps (za Tryz.f120) [none] Tryz.f120.results.toList [.s a0,.i .i64 a1] k=jca a0 a1 (fun r0=>k (.i .u8 r0)):=by kernel_rfl
theorem zfn:FO ro 120 (Jd (jca)):=(jx (rc:=[none]) (f:=120) (fn:=Tryz.f120) (c:=za Tryz.f120) (nt:=Tryz.f120.ntmps) (res:=Tryz.f120.results.toList) (C:=zcS) (L:=noL) (fun _ _=>rfl) Tryz.func120 (by kernel_rfl) rfl rfl (zeS) (Ji (l:=[]) (by kernel_rfl) Zd)).weak (by
 intro us k h;unfold Jd at h;split at h
 ·rw [jeS];exact h
 ·exact h.elim)
abbrev zc:=Int→(Bool→Prop)→Prop
def Zf (A:zc) (us:List W) (k:W→Prop):Prop:=match us with
 | [.i .u8 a0]=>A a0 (fun r0=>k (.b r0))
 | _=>False
theorem Zde {A A2:zc} (h:FO ro 81 (Zf A)) (hA:∀a0 K,A2 a0 K→A a0 K):FO ro 81 (Zf A2):=h.weak (by
 intro us k h;unfold Zf at h ⊢;split at h
 ·exact hA _ _ h
 ·exact h.elim)
def ZbA (a0:Int) (K:Bool→Prop):Prop:=
 (((decide ((48:Int)≤a0))=true→K (decide (a0≤57)))∧((decide ((48:Int)≤a0))=false→K false))
def zcr:Zj sg:=tab []
theorem Zeo (o0:Nat→Prop):JB sy Tryz.prog GT (ovD ro) o0 ro (zcr):=jd o0
theorem Jeo (a0:Int) (k:W→Prop):fnT sy Tryz.prog GT (zcr) noL Tryz.f81.ntmps (za Tryz.f81) [none] Tryz.f81.results.toList [.i .u8 a0] k=ZbA a0 (fun r0=>k (.b r0)):=by kernel_rfl
theorem ZeS:FO ro 81 (Zf (ZbA)):=(jx (rc:=[none]) (f:=81) (fn:=Tryz.f81) (c:=za Tryz.f81) (nt:=Tryz.f81.ntmps) (res:=Tryz.f81.results.toList) (C:=zcr) (L:=noL) (fun _ _=>rfl) Tryz.func81 (by kernel_rfl) rfl rfl (Zeo) (Ji (l:=[]) (by kernel_rfl) Zd)).weak (by
 intro us k h;unfold Zf at h;split at h
 ·rw [Jeo];exact h
 ·exact h.elim)
abbrev zx:=Int→(Bool→Prop)→Prop
def ZI (A:zx) (us:List W) (k:W→Prop):Prop:=match us with
 | [.i .u8 a0]=>A a0 (fun r0=>k (.b r0))
 | _=>False
theorem zdC {A A2:zx} (h:FO ro 123 (ZI A)) (hA:∀a0 K,A2 a0 K→A a0 K):FO ro 123 (ZI A2):=h.weak (by
 intro us k h;unfold ZI at h ⊢;split at h
 ·exact hA _ _ h
 ·exact h.elim)
def Zca (a0:Int) (K:Bool→Prop):Prop:=
 (((decide (a0=43))=false→K (decide (a0=45)))∧((decide (a0=43))=true→K true))
def jcS:Zj sg:=tab []
theorem JeS (o0:Nat→Prop):JB sy Tryz.prog GT (ovD ro) o0 ro (jcS):=jd o0
theorem zeT (a0:Int) (k:W→Prop):fnT sy Tryz.prog GT (jcS) noL Tryz.f123.ntmps (za Tryz.f123) [none] Tryz.f123.results.toList [.i .u8 a0] k=Zca a0 (fun r0=>k (.b r0)):=by kernel_rfl
theorem jfn:FO ro 123 (ZI (Zca)):=(jx (rc:=[none]) (f:=123) (fn:=Tryz.f123) (c:=za Tryz.f123) (nt:=Tryz.f123.ntmps) (res:=Tryz.f123.results.toList) (C:=jcS) (L:=noL) (fun _ _=>rfl) Tryz.func123 (by kernel_rfl) rfl rfl (JeS) (Ji (l:=[]) (by kernel_rfl) Zd)).weak (by
 intro us k h;unfold ZI at h;split at h
 ·rw [zeT];exact h
 ·exact h.elim)
abbrev ZaR:=Bt→Int→(Bool→Prop)→Prop
def jaY (A:ZaR) (us:List W) (k:W→Prop):Prop:=match us with
 | [.s a0,.i .i64 a1]=>A a0 a1 (fun r0=>k (.b r0))
 | _=>False
theorem jeT {A A2:ZaR} (h:FO ro 124 (jaY A)) (hA:∀a0 a1 K,A2 a0 a1 K→A a0 a1 K):FO ro 124 (jaY A2):=h.weak (by
 intro us k h;unfold jaY at h ⊢;split at h
 ·exact hA _ _ _ h
 ·exact h.elim)
def zep (A120:Ja) (A81:zc) (a0:Bt) (a1:Int) (K:Bool→Prop):Prop:=
 (A120 a0 a1 (fun y1=>(((decide (y1=46))=true→(I64 (a1+1)∧(A120 a0 (a1+1) (fun y2=>(A81 y2 (fun y3=>K y3))))))∧((decide (y1=46))=false→K false))))
def Zfn (A120:Ja) (A81:zc):Zj sg:=tab [(120,con [none,none] (Jd A120)),(81,con [none] (Zf A81))]
theorem Jgz (A120:Ja) (A81:zc) (h120:FO ro 120 (Jd A120)) (h81:FO ro 81 (Zf A81)) (o0:Nat→Prop):JB sy Tryz.prog GT (ovD ro) o0 ro (Zfn A120 A81):=(Za (Zc h120) (Za (Zc h81) jd)) o0
theorem zgA (A120:Ja) (A81:zc) (a0:Bt) (a1:Int) (k:W→Prop):fnT sy Tryz.prog GT (Zfn A120 A81) noL Tryz.f124.ntmps (za Tryz.f124) [none] Tryz.f124.results.toList [.s a0,.i .i64 a1] k=zep A120 A81 a0 a1 (fun r0=>k (.b r0)):=by kernel_rfl
theorem zha (A120:Ja) (A81:zc) (h120:FO ro 120 (Jd A120)) (h81:FO ro 81 (Zf A81)):FO ro 124 (jaY (zep A120 A81)):=(jx (rc:=[none]) (f:=124) (fn:=Tryz.f124) (c:=za Tryz.f124) (nt:=Tryz.f124.ntmps) (res:=Tryz.f124.results.toList) (C:=Zfn A120 A81) (L:=noL) (fun _ _=>rfl) Tryz.func124 (by kernel_rfl) rfl rfl (Jgz A120 A81 h120 h81) (Ji (l:=[]) (by kernel_rfl) Zd)).weak (by
 intro us k h;unfold jaY at h;split at h
 ·rw [zgA];exact h
 ·exact h.elim)
abbrev JbV:=Bt→Int→(Bool→Prop)→Prop
def JbA (A:JbV) (us:List W) (k:W→Prop):Prop:=match us with
 | [.s a0,.i .i64 a1]=>A a0 a1 (fun r0=>k (.b r0))
 | _=>False
theorem ZeT {A A2:JbV} (h:FO ro 99 (JbA A)) (hA:∀a0 a1 K,A2 a0 a1 K→A a0 a1 K):FO ro 99 (JbA A2):=h.weak (by
 intro us k h;unfold JbA at h ⊢;split at h
 ·exact hA _ _ _ h
 ·exact h.elim)
def jep (A120:Ja) (A123:zx) (A81:zc) (A124:ZaR) (a0:Bt) (a1:Int) (K:Bool→Prop):Prop:=
 (A120 a0 a1 (fun y1=>(A123 y1 (fun y2=>((y2=true→(I64 (a1+1)∧(A120 a0 (a1+1) (fun y3=>(A81 y3 (fun y4=>((y4=false→(A124 a0 (a1+1) (fun y5=>K y5)))∧(y4=true→K true))))))))∧(y2=false→(A120 a0 a1 (fun y6=>(A81 y6 (fun y7=>((y7=false→(A124 a0 a1 (fun y8=>K y8)))∧(y7=true→K true))))))))))))
def Jfn (A120:Ja) (A123:zx) (A81:zc) (A124:ZaR):Zj sg:=tab [(120,con [none,none] (Jd A120)),(123,con [none] (ZI A123)),(81,con [none] (Zf A81)),(124,con [none,none] (jaY A124))]
theorem jgA (A120:Ja) (A123:zx) (A81:zc) (A124:ZaR) (h120:FO ro 120 (Jd A120)) (h123:FO ro 123 (ZI A123)) (h81:FO ro 81 (Zf A81)) (h124:FO ro 124 (jaY A124)) (o0:Nat→Prop):JB sy Tryz.prog GT (ovD ro) o0 ro (Jfn A120 A123 A81 A124):=(Za (Zc h120) (Za (Zc h123) (Za (Zc h81) (Za (Zc h124) jd)))) o0
theorem ZgA (A120:Ja) (A123:zx) (A81:zc) (A124:ZaR) (a0:Bt) (a1:Int) (k:W→Prop):fnT sy Tryz.prog GT (Jfn A120 A123 A81 A124) noL Tryz.f99.ntmps (za Tryz.f99) [none] Tryz.f99.results.toList [.s a0,.i .i64 a1] k=jep A120 A123 A81 A124 a0 a1 (fun r0=>k (.b r0)):=by kernel_rfl
theorem jha (A120:Ja) (A123:zx) (A81:zc) (A124:ZaR) (h120:FO ro 120 (Jd A120)) (h123:FO ro 123 (ZI A123)) (h81:FO ro 81 (Zf A81)) (h124:FO ro 124 (jaY A124)):FO ro 99 (JbA (jep A120 A123 A81 A124)):=(jx (rc:=[none]) (f:=99) (fn:=Tryz.f99) (c:=za Tryz.f99) (nt:=Tryz.f99.ntmps) (res:=Tryz.f99.results.toList) (C:=Jfn A120 A123 A81 A124) (L:=noL) (fun _ _=>rfl) Tryz.func99 (by kernel_rfl) rfl rfl (jgA A120 A123 A81 A124 h120 h123 h81 h124) (Ji (l:=[]) (by kernel_rfl) Zd)).weak (by
 intro us k h;unfold JbA at h;split at h
 ·rw [ZgA];exact h
 ·exact h.elim)
abbrev zB:=Int→(Bool→Prop)→Prop
def Zw (A:zB) (us:List W) (k:W→Prop):Prop:=match us with
 | [.i .u8 a0]=>A a0 (fun r0=>k (.b r0))
 | _=>False
theorem zbB {A A2:zB} (h:FO ro 140 (Zw A)) (hA:∀a0 K,A2 a0 K→A a0 K):FO ro 140 (Zw A2):=h.weak (by
 intro us k h;unfold Zw at h ⊢;split at h
 ·exact hA _ _ h
 ·exact h.elim)
def Jal (a0:Int) (K:Bool→Prop):Prop:=
 (((decide (a0=101))=false→K (decide (a0=69)))∧((decide (a0=101))=true→K true))
def JaI:Zj sg:=tab []
theorem zch (o0:Nat→Prop):JB sy Tryz.prog GT (ovD ro) o0 ro (JaI):=jd o0
theorem jch (a0:Int) (k:W→Prop):fnT sy Tryz.prog GT (JaI) noL Tryz.f140.ntmps (za Tryz.f140) [none] Tryz.f140.results.toList [.i .u8 a0] k=Jal a0 (fun r0=>k (.b r0)):=by kernel_rfl
theorem jcr:FO ro 140 (Zw (Jal)):=(jx (rc:=[none]) (f:=140) (fn:=Tryz.f140) (c:=za Tryz.f140) (nt:=Tryz.f140.ntmps) (res:=Tryz.f140.results.toList) (C:=JaI) (L:=noL) (fun _ _=>rfl) Tryz.func140 (by kernel_rfl) rfl rfl (zch) (Ji (l:=[]) (by kernel_rfl) Zd)).weak (by
 intro us k h;unfold Zw at h;split at h
 ·rw [jch];exact h
 ·exact h.elim)
abbrev zO:=Bt→Int→(Bool→Prop)→Prop
def ZG (A:zO) (us:List W) (k:W→Prop):Prop:=match us with
 | [.s a0,.i .i64 a1]=>A a0 a1 (fun r0=>k (.b r0))
 | _=>False
theorem Zch {A A2:zO} (h:FO ro 141 (ZG A)) (hA:∀a0 a1 K,A2 a0 a1 K→A a0 a1 K):FO ro 141 (ZG A2):=h.weak (by
 intro us k h;unfold ZG at h ⊢;split at h
 ·exact hA _ _ _ h
 ·exact h.elim)
def zaJ (A120:Ja) (A123:zx) (A81:zc) (a0:Bt) (a1:Int) (K:Bool→Prop):Prop:=
 (A120 a0 a1 (fun y1=>(A123 y1 (fun y2=>((y2=true→(I64 (a1+1)∧(A120 a0 (a1+1) (fun y3=>(A81 y3 (fun y4=>K y4))))))∧(y2=false→(A120 a0 a1 (fun y5=>(A81 y5 (fun y6=>K y6))))))))))
def Ja7 (A120:Ja) (A123:zx) (A81:zc):Zj sg:=tab [(120,con [none,none] (Jd A120)),(123,con [none] (ZI A123)),(81,con [none] (Zf A81))]
theorem ZcS (A120:Ja) (A123:zx) (A81:zc) (h120:FO ro 120 (Jd A120)) (h123:FO ro 123 (ZI A123)) (h81:FO ro 81 (Zf A81)) (o0:Nat→Prop):JB sy Tryz.prog GT (ovD ro) o0 ro (Ja7 A120 A123 A81):=(Za (Zc h120) (Za (Zc h123) (Za (Zc h81) jd))) o0
theorem JcS (A120:Ja) (A123:zx) (A81:zc) (a0:Bt) (a1:Int) (k:W→Prop):fnT sy Tryz.prog GT (Ja7 A120 A123 A81) noL Tryz.f141.ntmps (za Tryz.f141) [none] Tryz.f141.results.toList [.s a0,.i .i64 a1] k=zaJ A120 A123 A81 a0 a1 (fun r0=>k (.b r0)):=by kernel_rfl
theorem Jde (A120:Ja) (A123:zx) (A81:zc) (h120:FO ro 120 (Jd A120)) (h123:FO ro 123 (ZI A123)) (h81:FO ro 81 (Zf A81)):FO ro 141 (ZG (zaJ A120 A123 A81)):=(jx (rc:=[none]) (f:=141) (fn:=Tryz.f141) (c:=za Tryz.f141) (nt:=Tryz.f141.ntmps) (res:=Tryz.f141.results.toList) (C:=Ja7 A120 A123 A81) (L:=noL) (fun _ _=>rfl) Tryz.func141 (by kernel_rfl) rfl rfl (ZcS A120 A123 A81 h120 h123 h81) (Ji (l:=[]) (by kernel_rfl) Zd)).weak (by
 intro us k h;unfold ZG at h;split at h
 ·rw [JcS];exact h
 ·exact h.elim)
abbrev zbW:=Bt→(Int→Prop)→Prop
def jbB (A:zbW) (us:List W) (k:W→Prop):Prop:=match us with
 | [.s a0]=>A a0 (fun r0=>k (.i .i64 r0))
 | _=>False
theorem JeT {A A2:zbW} (h:FO ro 142 (jbB A)) (hA:∀a0 K,A2 a0 K→A a0 K):FO ro 142 (jbB A2):=h.weak (by
 intro us k h;unfold jbB at h ⊢;split at h
 ·exact hA _ _ h
 ·exact h.elim)
def Jca:Nat→Bt→Int→Int→Int→(Int→Prop)→Prop
 | 0,_,_,_,_,_=>False
 | n+1,x0,x3,x6,x7,Ke=>(((decide (x7<x6))=true→(I64 ((10:Int)*x3)∧((0≤x7∧x7<(x0.length:Int))∧(I64 (IntKind.u8.wrap (((x0.getD x7.toNat 0).toNat:Int)-(48:Int)))∧(I64 (((10:Int)*x3)+(IntKind.u8.wrap (((x0.getD x7.toNat 0).toNat:Int)-(48:Int))))∧(I64 (x7+1)∧Jca n x0 (if (8000:Int)<(((10:Int)*x3)+(IntKind.u8.wrap (((x0.getD x7.toNat 0).toNat:Int)-(48:Int)))) then (8000:Int) else (((10:Int)*x3)+(IntKind.u8.wrap (((x0.getD x7.toNat 0).toNat:Int)-(48:Int))))) x6 (x7+1) Ke))))))∧((decide (x7<x6))=false→Ke x3))
def zfo (a0:Bt) (K:Int→Prop):Prop:=
 (∃m,Jca m a0 (0:Int) (a0.length:Int) (0:Int) (fun y1=>K y1))
def Zep:Zj sg:=tab []
theorem zeU (o0:Nat→Prop):JB sy Tryz.prog GT (ovD ro) o0 ro (Zep):=jd o0
abbrev zcT:Type:=((Bt)×Int×Int×Int×Unit)
abbrev Yb_k_wNu_3:Type:=Unit
def ls_k_wNu_3:LS sy zcT Yb_k_wNu_3:=⟨[],Jc 0 (Zl sy) (Jc 3 (Je sy .i64) (Jc 6 (Je sy .i64) (Jc 7 (Je sy .i64) (JC sy)))),zD sy,0,[]⟩
def le_k_wNu_3:LS sy (Int×Unit) Unit:=⟨[],Jc 3 (Je sy .i64) (JC sy),zD sy,0,[]⟩
def jcT:LS sy Unit Unit:=⟨[],JC sy,zD sy,0,[]⟩
def zcb (n:Nat) (x:zcT×Yb_k_wNu_3) (K:Ex→Z sg→Prop):Prop:=Jca n x.1.1 x.1.2.1 x.1.2.2.1 x.1.2.2.2.1 (fun y0=>K (.exit 0) (le_k_wNu_3.put ((y0,()),())))
def JgA (z:Z sg) (K:Ex→Z sg→Prop):Prop:=ls_k_wNu_3.get z (fun x=>∃n,zcb n x K)
def ZcT:ZW sg:=jcm [(3,JgA)]
theorem Jf3 (n:Nat) (x:zcT×Yb_k_wNu_3) (K:Ex→Z sg→Prop):zt (ls_k_wNu_3.put x) (fun z=>sC sy Tryz.prog GT (Zep) (ZcT) Tryz.f142.ntmps (zb (za Tryz.f142) 0) z (rnd ls_k_wNu_3 (czT 0 le_k_wNu_3 jcT) (fun x=>zcb n x K) K))=zcb (n+1) x K:=by kernel_rfl
theorem zf4 (z:Z sg) (K:Ex→Z sg→Prop):(ZcT) (zb (za Tryz.f142) 0) z K=ls_k_wNu_3.get z (fun x=>∃n,zcb n x K):=by kernel_rfl
theorem jf4:∀(o0:Nat→Prop) (B:Bs sg),B.E.length≤0→∀z K,(ZcT) (zb (za Tryz.f142) 0) z K→Sx.Sem sy Tryz.prog GT (ovD ro) o0 ro Tryz.f142.ntmps B (.loop (zb (za Tryz.f142) 0)) z K:=
 ZD (zeU) (Ji (l:=[]) (by kernel_rfl) Zd) ls_k_wNu_3 (by decide) (czT 0 le_k_wNu_3 jcT) (fun _ _ hB=>ZV 0 le_k_wNu_3 jcT (Nat.le_trans hB (by decide)) (Nat.le_trans hB (by decide))) (fun _ _ h=>h) (Jf3) (zf4)
theorem Zha:jbV sy Tryz.prog GT (ovD ro) ro (ZcT) 0 Tryz.f142.ntmps (za Tryz.f142):=Ji (l:=[(zb (za Tryz.f142) 0)]) (by kernel_rfl) (jD (jf4) Zd)
theorem zgB (a0:Bt) (k:W→Prop):fnT sy Tryz.prog GT (Zep) (ZcT) Tryz.f142.ntmps (za Tryz.f142) [none] Tryz.f142.results.toList [.s a0] k=zfo a0 (fun r0=>k (.i .i64 r0)):=by kernel_rfl
theorem Jha:FO ro 142 (jbB (zfo)):=(jx (rc:=[none]) (f:=142) (fn:=Tryz.f142) (c:=za Tryz.f142) (nt:=Tryz.f142.ntmps) (res:=Tryz.f142.results.toList) (C:=Zep) (L:=(ZcT)) (fun _ _=>rfl) Tryz.func142 (by kernel_rfl) rfl rfl (zeU) (Zha)).weak (by
 intro us k h;unfold jbB at h;split at h
 ·rw [zgB];exact h
 ·exact h.elim)
abbrev Zbe:=Bt→Int→(Bt→Prop)→Prop
def Ja1 (A:Zbe) (us:List W) (k:W→Prop):Prop:=match us with
 | [.s a0,.i .u8 a1]=>A a0 a1 (fun r0=>k (.s r0))
 | _=>False
theorem Jep {A A2:Zbe} (h:FO ro 164 (Ja1 A)) (hA:∀a0 a1 K,A2 a0 a1 K→A a0 a1 K):FO ro 164 (Ja1 A2):=h.weak (by
 intro us k h;unfold Ja1 at h ⊢;split at h
 ·exact hA _ _ _ h
 ·exact h.elim)
def ZbB:Nat→Bt→Int→(Bt→Prop)→Prop
 | 0,_,_,_=>False
 | n+1,x0,x1,Ke=>(((decide ((0:Int)<(x0.length:Int)))=true→((0≤(0:Int)∧(0:Int)<(x0.length:Int))∧(((decide (((x0.getD 0 0).toNat:Int)=x1))=true→((0≤(1:Int)∧(1:Int)≤(x0.length:Int))∧ZbB n (x0.drop 1) x1 Ke))∧((decide (((x0.getD 0 0).toNat:Int)=x1))=false→Ke x0))))∧((decide ((0:Int)<(x0.length:Int)))=false→Ke x0))
def zeq (a0:Bt) (a1:Int) (K:Bt→Prop):Prop:=
 (∃m,ZbB m a0 a1 (fun y1=>K y1))
def Jdp:Zj sg:=tab []
theorem zec (o0:Nat→Prop):JB sy Tryz.prog GT (ovD ro) o0 ro (Jdp):=jd o0
abbrev Zcr:Type:=((Bt)×Int×Unit)
abbrev Yb_gs_tLB_1:Type:=Unit
def ls_gs_tLB_1:LS sy Zcr Yb_gs_tLB_1:=⟨[],Jc 0 (Zl sy) (Jc 1 (Je sy .u8) (JC sy)),zD sy,0,[]⟩
def le_gs_tLB_1:LS sy ((Bt)×Unit) Unit:=⟨[],Jc 0 (Zl sy) (JC sy),zD sy,0,[]⟩
def Jcr:LS sy Unit Unit:=⟨[],JC sy,zD sy,0,[]⟩
def JbB (n:Nat) (x:Zcr×Yb_gs_tLB_1) (K:Ex→Z sg→Prop):Prop:=ZbB n x.1.1 x.1.2.1 (fun y0=>K (.exit 0) (le_gs_tLB_1.put ((y0,()),())))
def Zf4 (z:Z sg) (K:Ex→Z sg→Prop):Prop:=ls_gs_tLB_1.get z (fun x=>∃n,JbB n x K)
def jcb:ZW sg:=jcm [(1,Zf4)]
theorem jfo (n:Nat) (x:Zcr×Yb_gs_tLB_1) (K:Ex→Z sg→Prop):zt (ls_gs_tLB_1.put x) (fun z=>sC sy Tryz.prog GT (Jdp) (jcb) Tryz.f164.ntmps (zb (za Tryz.f164) 0) z (rnd ls_gs_tLB_1 (czT 0 le_gs_tLB_1 Jcr) (fun x=>JbB n x K) K))=JbB (n+1) x K:=by kernel_rfl
theorem Zfo (z:Z sg) (K:Ex→Z sg→Prop):(jcb) (zb (za Tryz.f164) 0) z K=ls_gs_tLB_1.get z (fun x=>∃n,JbB n x K):=by kernel_rfl
theorem Jfo:∀(o0:Nat→Prop) (B:Bs sg),B.E.length≤0→∀z K,(jcb) (zb (za Tryz.f164) 0) z K→Sx.Sem sy Tryz.prog GT (ovD ro) o0 ro Tryz.f164.ntmps B (.loop (zb (za Tryz.f164) 0)) z K:=
 ZD (zec) (Ji (l:=[]) (by kernel_rfl) Zd) ls_gs_tLB_1 (by decide) (czT 0 le_gs_tLB_1 Jcr) (fun _ _ hB=>ZV 0 le_gs_tLB_1 Jcr (Nat.le_trans hB (by decide)) (Nat.le_trans hB (by decide))) (fun _ _ h=>h) (jfo) (Zfo)
theorem jgB:jbV sy Tryz.prog GT (ovD ro) ro (jcb) 0 Tryz.f164.ntmps (za Tryz.f164):=Ji (l:=[(zb (za Tryz.f164) 0)]) (by kernel_rfl) (jD (Jfo) Zd)
theorem Jf4 (a0:Bt) (a1:Int) (k:W→Prop):fnT sy Tryz.prog GT (Jdp) (jcb) Tryz.f164.ntmps (za Tryz.f164) [none] Tryz.f164.results.toList [.s a0,.i .u8 a1] k=zeq a0 a1 (fun r0=>k (.s r0)):=by kernel_rfl
theorem ZgB:FO ro 164 (Ja1 (zeq)):=(jx (rc:=[none]) (f:=164) (fn:=Tryz.f164) (c:=za Tryz.f164) (nt:=Tryz.f164.ntmps) (res:=Tryz.f164.results.toList) (C:=Jdp) (L:=(jcb)) (fun _ _=>rfl) Tryz.func164 (by kernel_rfl) rfl rfl (zec) (jgB)).weak (by
 intro us k h;unfold Ja1 at h;split at h
 ·rw [Jf4];exact h
 ·exact h.elim)
abbrev Zp:=Bt→Bt→(Bt→Prop)→Prop
def JG (A:Zp) (us:List W) (k:W→Prop):Prop:=match us with
 | [.s a0,.s a1]=>A a0 a1 (fun r0=>k (.s r0))
 | _=>False
theorem zcD {A A2:Zp} (h:FO ro 158 (JG A)) (hA:∀a0 a1 K,A2 a0 a1 K→A a0 a1 K):FO ro 158 (JG A2):=h.weak (by
 intro us k h;unfold JG at h ⊢;split at h
 ·exact hA _ _ _ h
 ·exact h.elim)
def zbC (A164:Zbe) (a0:Bt) (a1:Bt) (K:Bt→Prop):Prop:=
 (((a0==([]:Bt))=false→(((a1==([]:Bt))=true→K a0)∧((a1==([]:Bt))=false→(((decide ((a1.length:Int)=(1:Int)))=true→((0≤(0:Int)∧(0:Int)<(a1.length:Int))∧(((decide (((a1.getD 0 0).toNat:Int)<(128:Int)))=true→((0≤(0:Int)∧(0:Int)<(a1.length:Int))∧(A164 a0 ((a1.getD 0 0).toNat:Int) (fun y1=>K y1))))∧((decide (((a1.getD 0 0).toNat:Int)<(128:Int)))=false→False))))∧((decide ((a1.length:Int)=(1:Int)))=false→False)))))∧((a0==([]:Bt))=true→K a0))
def jbC (A164:Zbe):Zj sg:=tab [(164,con [none,none] (Ja1 A164)),(165,con [] noT),(166,con [] noT),(167,con [] noT)]
theorem jdC (A164:Zbe) (h164:FO ro 164 (Ja1 A164)) (o0:Nat→Prop):JB sy Tryz.prog GT (ovD ro) o0 ro (jbC A164):=(Za (Zc h164) (Za (Zc (jgz 165)) (Za (Zc (jgz 166)) (Za (Zc (jgz 167)) jd)))) o0
theorem ZdC (A164:Zbe) (a0:Bt) (a1:Bt) (k:W→Prop):fnT sy Tryz.prog GT (jbC A164) noL Tryz.f158.ntmps (za Tryz.f158) [none] Tryz.f158.results.toList [.s a0,.s a1] k=zbC A164 a0 a1 (fun r0=>k (.s r0)):=by kernel_rfl
theorem Jd0 (A164:Zbe) (h164:FO ro 164 (Ja1 A164)):FO ro 158 (JG (zbC A164)):=(jx (rc:=[none]) (f:=158) (fn:=Tryz.f158) (c:=za Tryz.f158) (nt:=Tryz.f158.ntmps) (res:=Tryz.f158.results.toList) (C:=jbC A164) (L:=noL) (fun _ _=>rfl) Tryz.func158 (by kernel_rfl) rfl rfl (jdC A164 h164) (Ji (l:=[]) (by kernel_rfl) Zd)).weak (by
 intro us k h;unfold JG at h;split at h
 ·rw [ZdC];exact h
 ·exact h.elim)
abbrev jbW:=Bt→Int→(Int→Prop)→Prop
def ZbC (A:jbW) (us:List W) (k:W→Prop):Prop:=match us with
 | [.s a0,.i .i64 a1]=>A a0 a1 (fun r0=>k (.i .i64 r0))
 | _=>False
theorem jeU {A A2:jbW} (h:FO ro 143 (ZbC A)) (hA:∀a0 a1 K,A2 a0 a1 K→A a0 a1 K):FO ro 143 (ZbC A2):=h.weak (by
 intro us k h;unfold ZbC at h ⊢;split at h
 ·exact hA _ _ _ h
 ·exact h.elim)
def Zbs (A158:Zp):Nat→Bt→Int→Int→Int→(Int→Prop)→Prop
 | 0,_,_,_,_,_=>False
 | n+1,x5,x6,x25,x26,Ke=>(((decide (x26<x25))=true→(I64 (x6*10)∧(((decide (x26<(x5.length:Int)))=true→((0≤x26∧x26<(x5.length:Int))∧(I64 (IntKind.u8.wrap (((x5.getD x26.toNat 0).toNat:Int)-(48:Int)))∧(I64 ((x6*10)+(IntKind.u8.wrap (((x5.getD x26.toNat 0).toNat:Int)-(48:Int))))∧(I64 (x26+1)∧Zbs A158 n x5 ((x6*10)+(IntKind.u8.wrap (((x5.getD x26.toNat 0).toNat:Int)-(48:Int)))) x25 (x26+1) Ke)))))∧((decide (x26<(x5.length:Int)))=false→(I64 (x26+1)∧Zbs A158 n x5 (x6*10) x25 (x26+1) Ke)))))∧((decide (x26<x25))=false→Ke x6))
def zfp (A158:Zp) (a0:Bt) (a1:Int) (K:Int→Prop):Prop:=
 (A158 a0 ([48]:Bt) (fun y1=>(I64 ((a0.length:Int)-(y1.length:Int))∧(I64 (a1-((a0.length:Int)-(y1.length:Int)))∧(((y1==([]:Bt))=false→(((decide ((a1-((a0.length:Int)-(y1.length:Int)))≤0))=true→K (0:Int))∧((decide ((a1-((a0.length:Int)-(y1.length:Int)))≤0))=false→(((decide ((13:Int)<(a1-((a0.length:Int)-(y1.length:Int)))))=true→K (1000000000000:Int))∧((decide ((13:Int)<(a1-((a0.length:Int)-(y1.length:Int)))))=false→(∃m,Zbs A158 m y1 (0:Int) (a1-((a0.length:Int)-(y1.length:Int))) (0:Int) (fun y2=>K (if (1000000000000:Int)<y2 then (1000000000000:Int) else y2))))))))∧((y1==([]:Bt))=true→K (0:Int)))))))
def jeq (A158:Zp):Zj sg:=tab [(158,con [none,none] (JG A158))]
theorem ZeU (A158:Zp) (h158:FO ro 158 (JG A158)) (o0:Nat→Prop):JB sy Tryz.prog GT (ovD ro) o0 ro (jeq A158):=(Za (Zc h158) jd) o0
abbrev JcT:Type:=((Bt)×Int×Int×Int×Unit)
abbrev Yb_k_cNu_9:Type:=Unit
def ls_k_cNu_9:LS sy JcT Yb_k_cNu_9:=⟨[],Jc 5 (Zl sy) (Jc 6 (Je sy .i64) (Jc 25 (Je sy .i64) (Jc 26 (Je sy .i64) (JC sy)))),zD sy,0,[]⟩
def le_k_cNu_9:LS sy (Int×Unit) Unit:=⟨[],Jc 6 (Je sy .i64) (JC sy),zD sy,0,[]⟩
def zcU:LS sy Unit Unit:=⟨[],JC sy,zD sy,0,[]⟩
def Zcb (A158:Zp) (n:Nat) (x:JcT×Yb_k_cNu_9) (K:Ex→Z sg→Prop):Prop:=Zbs A158 n x.1.1 x.1.2.1 x.1.2.2.1 x.1.2.2.2.1 (fun y0=>K (.exit 0) (le_k_cNu_9.put ((y0,()),())))
def JgB (A158:Zp) (z:Z sg) (K:Ex→Z sg→Prop):Prop:=ls_k_cNu_9.get z (fun x=>∃n,Zcb A158 n x K)
def jcU (A158:Zp):ZW sg:=jcm [(9,JgB A158)]
theorem zf5 (A158:Zp) (n:Nat) (x:JcT×Yb_k_cNu_9) (K:Ex→Z sg→Prop):zt (ls_k_cNu_9.put x) (fun z=>sC sy Tryz.prog GT (jeq A158) (jcU A158) Tryz.f143.ntmps (zb (za Tryz.f143) 0) z (rnd ls_k_cNu_9 (czT 0 le_k_cNu_9 zcU) (fun x=>Zcb A158 n x K) K))=Zcb A158 (n+1) x K:=by kernel_rfl
theorem jf5 (A158:Zp) (z:Z sg) (K:Ex→Z sg→Prop):(jcU A158) (zb (za Tryz.f143) 0) z K=ls_k_cNu_9.get z (fun x=>∃n,Zcb A158 n x K):=by kernel_rfl
theorem Zf5 (A158:Zp) (h158:FO ro 158 (JG A158)):∀(o0:Nat→Prop) (B:Bs sg),B.E.length≤0→∀z K,(jcU A158) (zb (za Tryz.f143) 0) z K→Sx.Sem sy Tryz.prog GT (ovD ro) o0 ro Tryz.f143.ntmps B (.loop (zb (za Tryz.f143) 0)) z K:=
 ZD (ZeU A158 h158) (Ji (l:=[]) (by kernel_rfl) Zd) ls_k_cNu_9 (by decide) (czT 0 le_k_cNu_9 zcU) (fun _ _ hB=>ZV 0 le_k_cNu_9 zcU (Nat.le_trans hB (by decide)) (Nat.le_trans hB (by decide))) (fun _ _ h=>h) (zf5 A158) (jf5 A158)
theorem zhb (A158:Zp) (h158:FO ro 158 (JG A158)):jbV sy Tryz.prog GT (ovD ro) ro (jcU A158) 0 Tryz.f143.ntmps (za Tryz.f143):=Ji (l:=[(zb (za Tryz.f143) 0)]) (by kernel_rfl) (jD (Zf5 A158 h158) Zd)
theorem zgC (A158:Zp) (a0:Bt) (a1:Int) (k:W→Prop):fnT sy Tryz.prog GT (jeq A158) (jcU A158) Tryz.f143.ntmps (za Tryz.f143) [none] Tryz.f143.results.toList [.s a0,.i .i64 a1] k=zfp A158 a0 a1 (fun r0=>k (.i .i64 r0)):=by kernel_rfl
theorem jhb (A158:Zp) (h158:FO ro 158 (JG A158)):FO ro 143 (ZbC (zfp A158)):=(jx (rc:=[none]) (f:=143) (fn:=Tryz.f143) (c:=za Tryz.f143) (nt:=Tryz.f143.ntmps) (res:=Tryz.f143.results.toList) (C:=jeq A158) (L:=(jcU A158)) (fun _ _=>rfl) Tryz.func143 (by kernel_rfl) rfl rfl (ZeU A158 h158) (zhb A158 h158)).weak (by
 intro us k h;unfold ZbC at h;split at h
 ·rw [zgC];exact h
 ·exact h.elim)
def JeU (A120:Ja) (A123:zx):Zj sg:=tab [(120,con [none,none] (Jd A120)),(123,con [none] (ZI A123))]
theorem jfp (A120:Ja) (A123:zx) (h120:FO ro 120 (Jd A120)) (h123:FO ro 123 (ZI A123)) (o0:Nat→Prop):JB sy Tryz.prog GT (ovD ro) o0 ro (JeU A120 A123):=(Za (Zc h120) (Za (Zc h123) jd)) o0
def Ju (A120:Ja) (A81:zc):Nat→Int→Bt→Int→(Int→Bt→Int→Prop)→Prop
 | 0,_,_,_,_=>False
 | n+1,x3,c0_0,c1_0,Ke=>(A120 c0_0 c1_0 (fun y1=>(A81 y1 (fun y2=>((y2=true→(I64 (c1_0+1)∧Ju A120 A81 n x3 c0_0 (c1_0+1) Ke))∧(y2=false→Ke x3 c0_0 c1_0))))))
def JdC (A120:Ja) (A81:zc):Zj sg:=tab [(120,con [none,none] (Jd A120)),(81,con [none] (Zf A81))]
theorem zdD (A120:Ja) (A81:zc) (h120:FO ro 120 (Jd A120)) (h81:FO ro 81 (Zf A81)) (o0:Nat→Prop):JB sy Tryz.prog GT (ovD ro) o0 ro (JdC A120 A81):=(Za (Zc h120) (Za (Zc h81) jd)) o0
abbrev ZbW:Type:=(Unit×Unit×Int×Unit)
abbrev Yb_k_rNu_2_2:Type:=(((Bt)×Unit)×(Int×Unit)×Unit)
def ls_k_rNu_2_2:LS sy ZbW Yb_k_rNu_2_2:=⟨[],Jc 0 (jK sy (.p 1 0)) (Jc 1 (jK sy (.p 0 0)) (Jc 3 (Je sy .i64) (JC sy))),Jb 0 (ja (Zl sy) (Zq sy)) (Jb 1 (ja (Je sy .i64) (Zq sy)) (zD sy)),2,[]⟩
def le_k_rNu_2_2:LS sy (Unit×Unit×Int×Unit) (((Bt)×Unit)×(Int×Unit)×Unit):=⟨[],Jc 0 (jK sy (.p 1 0)) (Jc 1 (jK sy (.p 0 0)) (Jc 3 (Je sy .i64) (JC sy))),Jb 0 (ja (Zl sy) (Zq sy)) (Jb 1 (ja (Je sy .i64) (Zq sy)) (zD sy)),2,[]⟩
def JbW:LS sy Unit Unit:=⟨[],JC sy,zD sy,2,[]⟩
def Jbe (A120:Ja) (A81:zc) (n:Nat) (x:ZbW×Yb_k_rNu_2_2) (K:Ex→Z sg→Prop):Prop:=Ju A120 A81 n x.1.2.2.1 x.2.1.1 x.2.2.1.1 (fun y0 y1 y2=>K (.exit 0) (le_k_rNu_2_2.put (((),(),y0,()),((y1,()),(y2,()),()))))
def Zfp (A120:Ja) (A81:zc) (z:Z sg) (K:Ex→Z sg→Prop):Prop:=ls_k_rNu_2_2.get z (fun x=>∃n,Jbe A120 A81 n x K)
def zbX (A120:Ja) (A81:zc):ZW sg:=jcm [(2,Zfp A120 A81)]
theorem zeV (A120:Ja) (A81:zc) (n:Nat) (x:ZbW×Yb_k_rNu_2_2) (K:Ex→Z sg→Prop):zt (ls_k_rNu_2_2.put x) (fun z=>sC sy Tryz.prog GT (JdC A120 A81) (zbX A120 A81) Tryz.f139.ntmps (zb (za Tryz.f139) 0) z (rnd ls_k_rNu_2_2 (czT 0 le_k_rNu_2_2 JbW) (fun x=>Jbe A120 A81 n x K) K))=Jbe A120 A81 (n+1) x K:=by kernel_rfl
theorem jeV (A120:Ja) (A81:zc) (z:Z sg) (K:Ex→Z sg→Prop):(zbX A120 A81) (zb (za Tryz.f139) 0) z K=ls_k_rNu_2_2.get z (fun x=>∃n,Jbe A120 A81 n x K):=by kernel_rfl
theorem ZeV (A120:Ja) (A81:zc) (h120:FO ro 120 (Jd A120)) (h81:FO ro 81 (Zf A81)):∀(o0:Nat→Prop) (B:Bs sg),B.E.length≤2→∀z K,(zbX A120 A81) (zb (za Tryz.f139) 0) z K→Sx.Sem sy Tryz.prog GT (ovD ro) o0 ro Tryz.f139.ntmps B (.loop (zb (za Tryz.f139) 0)) z K:=
 ZD (zdD A120 A81 h120 h81) (Ji (l:=[]) (by kernel_rfl) Zd) ls_k_rNu_2_2 (by decide) (czT 0 le_k_rNu_2_2 JbW) (fun _ _ hB=>ZV 0 le_k_rNu_2_2 JbW (Nat.le_trans hB (by decide)) (Nat.le_trans hB (by decide))) (fun _ _ h=>h) (zeV A120 A81) (jeV A120 A81)
theorem Jf5 (A120:Ja) (A81:zc) (h120:FO ro 120 (Jd A120)) (h81:FO ro 81 (Zf A81)):jbV sy Tryz.prog GT (ovD ro) ro (zbX A120 A81) 2 Tryz.f139.ntmps (za Tryz.f139):=Ji (l:=[(zb (za Tryz.f139) 0)]) (by kernel_rfl) (jD (ZeV A120 A81 h120 h81) Zd)
abbrev jbX:=Bt→Int→(Int→Bool→Int→Prop)→Prop
def JbC (A:jbX) (us:List W) (k:W→Prop):Prop:=match us with
 | [.s a0,.i .i64 a1]=>A a0 a1 (fun r0 r1 r2=>k (.t [.i .i64 r0,.b r1,.i .i64 r2]))
 | _=>False
theorem JeV {A A2:jbX} (h:FO ro 125 (JbC A)) (hA:∀a0 a1 K,A2 a0 a1 K→A a0 a1 K):FO ro 125 (JbC A2):=h.weak (by
 intro us k h;unfold JbC at h ⊢;split at h
 ·exact hA _ _ _ h
 ·exact h.elim)
def Jfp (A124:ZaR) (A120:Ja) (A140:zB) (A141:zO) (A142:zbW) (A143:jbW) (A123:zx) (A81:zc) (a0:Bt) (a1:Int) (K:Int→Bool→Int→Prop):Prop:=
 (A120 a0 a1 (fun y1=>(A120 a0 a1 (fun y2=>(A123 y2 (fun y3=>((y3=true→(I64 (a1+1)∧(∃m,Ju A120 A81 m (a1+1) a0 (a1+1) (fun y4 y5 y6=>((0≤y4∧y4≤y6∧y6≤(y5.length:Int))∧(A124 y5 y6 (fun y7=>((y7=true→(I64 (y6+1)∧(∃m,Ju A120 A81 m (y6+1) y5 (y6+1) (fun y8 y9 y10=>((0≤y8∧y8≤y10∧y10≤(y9.length:Int))∧(A120 y9 y10 (fun y11=>(A140 y11 (fun y12=>((y12=true→(I64 (y10+1)∧(A141 y9 (y10+1) (fun y13=>((y13=true→(I64 (y10+1)∧(A120 y9 (y10+1) (fun y14=>(A120 y9 (y10+1) (fun y15=>(A123 y15 (fun y16=>((y16=true→(I64 ((y10+1)+1)∧(∃m,Ju A120 A81 m ((y10+1)+1) y9 ((y10+1)+1) (fun y17 y18 y19=>((0≤y17∧y17≤y19∧y19≤(y18.length:Int))∧(A142 ((y18.drop y17.toNat).take (y19.toNat-y17.toNat)) (fun y20=>(((decide (y14=45))=true→(I64 (0-y20)∧(((y5.drop y4.toNat).take (y6.toNat-y4.toNat)).length+((y9.drop y8.toNat).take (y10.toNat-y8.toNat)).length≤1099511627776∧(I64 ((((y5.drop y4.toNat).take (y6.toNat-y4.toNat)).length:Int)+(0-y20))∧(I64 (((((y5.drop y4.toNat).take (y6.toNat-y4.toNat)).length:Int)+(0-y20))+3)∧(A143 (((y5.drop y4.toNat).take (y6.toNat-y4.toNat))++((y9.drop y8.toNat).take (y10.toNat-y8.toNat))) (((((y5.drop y4.toNat).take (y6.toNat-y4.toNat)).length:Int)+(0-y20))+3) (fun y21=>(((decide (y1=45))=true→(I64 (0-y21)∧K (0-y21) false y19))∧((decide (y1=45))=false→K y21 false y19)))))))))∧((decide (y14=45))=false→(((y5.drop y4.toNat).take (y6.toNat-y4.toNat)).length+((y9.drop y8.toNat).take (y10.toNat-y8.toNat)).length≤1099511627776∧(I64 ((((y5.drop y4.toNat).take (y6.toNat-y4.toNat)).length:Int)+y20)∧(I64 (((((y5.drop y4.toNat).take (y6.toNat-y4.toNat)).length:Int)+y20)+(3:Int))∧(A143 (((y5.drop y4.toNat).take (y6.toNat-y4.toNat))++((y9.drop y8.toNat).take (y10.toNat-y8.toNat))) (((((y5.drop y4.toNat).take (y6.toNat-y4.toNat)).length:Int)+y20)+(3:Int)) (fun y22=>(((decide (y1=45))=true→(I64 (0-y22)∧K (0-y22) false y19))∧((decide (y1=45))=false→K y22 false y19))))))))))))))))∧(y16=false→(∃m,Ju A120 A81 m (y10+1) y9 (y10+1) (fun y23 y24 y25=>((0≤y23∧y23≤y25∧y25≤(y24.length:Int))∧(A142 ((y24.drop y23.toNat).take (y25.toNat-y23.toNat)) (fun y26=>(((decide (y14=45))=true→(I64 (0-y26)∧(((y5.drop y4.toNat).take (y6.toNat-y4.toNat)).length+((y9.drop y8.toNat).take (y10.toNat-y8.toNat)).length≤1099511627776∧(I64 ((((y5.drop y4.toNat).take (y6.toNat-y4.toNat)).length:Int)+(0-y26))∧(I64 (((((y5.drop y4.toNat).take (y6.toNat-y4.toNat)).length:Int)+(0-y26))+3)∧(A143 (((y5.drop y4.toNat).take (y6.toNat-y4.toNat))++((y9.drop y8.toNat).take (y10.toNat-y8.toNat))) (((((y5.drop y4.toNat).take (y6.toNat-y4.toNat)).length:Int)+(0-y26))+3) (fun y27=>(((decide (y1=45))=true→(I64 (0-y27)∧K (0-y27) false y25))∧((decide (y1=45))=false→K y27 false y25)))))))))∧((decide (y14=45))=false→(((y5.drop y4.toNat).take (y6.toNat-y4.toNat)).length+((y9.drop y8.toNat).take (y10.toNat-y8.toNat)).length≤1099511627776∧(I64 ((((y5.drop y4.toNat).take (y6.toNat-y4.toNat)).length:Int)+y26)∧(I64 (((((y5.drop y4.toNat).take (y6.toNat-y4.toNat)).length:Int)+y26)+(3:Int))∧(A143 (((y5.drop y4.toNat).take (y6.toNat-y4.toNat))++((y9.drop y8.toNat).take (y10.toNat-y8.toNat))) (((((y5.drop y4.toNat).take (y6.toNat-y4.toNat)).length:Int)+y26)+(3:Int)) (fun y28=>(((decide (y1=45))=true→(I64 (0-y28)∧K (0-y28) false y25))∧((decide (y1=45))=false→K y28 false y25))))))))))))))))))))))))∧(y13=false→(((y5.drop y4.toNat).take (y6.toNat-y4.toNat)).length+((y9.drop y8.toNat).take (y10.toNat-y8.toNat)).length≤1099511627776∧(I64 ((((y5.drop y4.toNat).take (y6.toNat-y4.toNat)).length:Int)+(0:Int))∧(I64 (((((y5.drop y4.toNat).take (y6.toNat-y4.toNat)).length:Int)+(0:Int))+3)∧(A143 (((y5.drop y4.toNat).take (y6.toNat-y4.toNat))++((y9.drop y8.toNat).take (y10.toNat-y8.toNat))) (((((y5.drop y4.toNat).take (y6.toNat-y4.toNat)).length:Int)+(0:Int))+3) (fun y29=>(((decide (y1=45))=true→(I64 (0-y29)∧K (0-y29) false y10))∧((decide (y1=45))=false→K y29 false y10)))))))))))))∧(y12=false→(((y5.drop y4.toNat).take (y6.toNat-y4.toNat)).length+((y9.drop y8.toNat).take (y10.toNat-y8.toNat)).length≤1099511627776∧(I64 ((((y5.drop y4.toNat).take (y6.toNat-y4.toNat)).length:Int)+(0:Int))∧(I64 (((((y5.drop y4.toNat).take (y6.toNat-y4.toNat)).length:Int)+(0:Int))+3)∧(A143 (((y5.drop y4.toNat).take (y6.toNat-y4.toNat))++((y9.drop y8.toNat).take (y10.toNat-y8.toNat))) (((((y5.drop y4.toNat).take (y6.toNat-y4.toNat)).length:Int)+(0:Int))+3) (fun y30=>(((decide (y1=45))=true→(I64 (0-y30)∧K (0-y30) false y10))∧((decide (y1=45))=false→K y30 false y10))))))))))))))))))∧(y7=false→(A120 y5 y6 (fun y31=>(A140 y31 (fun y32=>((y32=true→(I64 (y6+1)∧(A141 y5 (y6+1) (fun y33=>((y33=true→(I64 (y6+1)∧(A120 y5 (y6+1) (fun y34=>(A120 y5 (y6+1) (fun y35=>(A123 y35 (fun y36=>((y36=true→(I64 ((y6+1)+1)∧(∃m,Ju A120 A81 m ((y6+1)+1) y5 ((y6+1)+1) (fun y37 y38 y39=>((0≤y37∧y37≤y39∧y39≤(y38.length:Int))∧(A142 ((y38.drop y37.toNat).take (y39.toNat-y37.toNat)) (fun y40=>(((decide (y34=45))=true→(I64 (0-y40)∧(((y5.drop y4.toNat).take (y6.toNat-y4.toNat)).length+([]:Bt).length≤1099511627776∧(I64 ((((y5.drop y4.toNat).take (y6.toNat-y4.toNat)).length:Int)+(0-y40))∧(I64 (((((y5.drop y4.toNat).take (y6.toNat-y4.toNat)).length:Int)+(0-y40))+3)∧(A143 (((y5.drop y4.toNat).take (y6.toNat-y4.toNat))++([]:Bt)) (((((y5.drop y4.toNat).take (y6.toNat-y4.toNat)).length:Int)+(0-y40))+3) (fun y41=>(((decide (y1=45))=true→(I64 (0-y41)∧K (0-y41) false y39))∧((decide (y1=45))=false→K y41 false y39)))))))))∧((decide (y34=45))=false→(((y5.drop y4.toNat).take (y6.toNat-y4.toNat)).length+([]:Bt).length≤1099511627776∧(I64 ((((y5.drop y4.toNat).take (y6.toNat-y4.toNat)).length:Int)+y40)∧(I64 (((((y5.drop y4.toNat).take (y6.toNat-y4.toNat)).length:Int)+y40)+(3:Int))∧(A143 (((y5.drop y4.toNat).take (y6.toNat-y4.toNat))++([]:Bt)) (((((y5.drop y4.toNat).take (y6.toNat-y4.toNat)).length:Int)+y40)+(3:Int)) (fun y42=>(((decide (y1=45))=true→(I64 (0-y42)∧K (0-y42) false y39))∧((decide (y1=45))=false→K y42 false y39))))))))))))))))∧(y36=false→(∃m,Ju A120 A81 m (y6+1) y5 (y6+1) (fun y43 y44 y45=>((0≤y43∧y43≤y45∧y45≤(y44.length:Int))∧(A142 ((y44.drop y43.toNat).take (y45.toNat-y43.toNat)) (fun y46=>(((decide (y34=45))=true→(I64 (0-y46)∧(((y5.drop y4.toNat).take (y6.toNat-y4.toNat)).length+([]:Bt).length≤1099511627776∧(I64 ((((y5.drop y4.toNat).take (y6.toNat-y4.toNat)).length:Int)+(0-y46))∧(I64 (((((y5.drop y4.toNat).take (y6.toNat-y4.toNat)).length:Int)+(0-y46))+3)∧(A143 (((y5.drop y4.toNat).take (y6.toNat-y4.toNat))++([]:Bt)) (((((y5.drop y4.toNat).take (y6.toNat-y4.toNat)).length:Int)+(0-y46))+3) (fun y47=>(((decide (y1=45))=true→(I64 (0-y47)∧K (0-y47) false y45))∧((decide (y1=45))=false→K y47 false y45)))))))))∧((decide (y34=45))=false→(((y5.drop y4.toNat).take (y6.toNat-y4.toNat)).length+([]:Bt).length≤1099511627776∧(I64 ((((y5.drop y4.toNat).take (y6.toNat-y4.toNat)).length:Int)+y46)∧(I64 (((((y5.drop y4.toNat).take (y6.toNat-y4.toNat)).length:Int)+y46)+(3:Int))∧(A143 (((y5.drop y4.toNat).take (y6.toNat-y4.toNat))++([]:Bt)) (((((y5.drop y4.toNat).take (y6.toNat-y4.toNat)).length:Int)+y46)+(3:Int)) (fun y48=>(((decide (y1=45))=true→(I64 (0-y48)∧K (0-y48) false y45))∧((decide (y1=45))=false→K y48 false y45))))))))))))))))))))))))∧(y33=false→(((y5.drop y4.toNat).take (y6.toNat-y4.toNat)).length+([]:Bt).length≤1099511627776∧(I64 ((((y5.drop y4.toNat).take (y6.toNat-y4.toNat)).length:Int)+(0:Int))∧(I64 (((((y5.drop y4.toNat).take (y6.toNat-y4.toNat)).length:Int)+(0:Int))+3)∧(A143 (((y5.drop y4.toNat).take (y6.toNat-y4.toNat))++([]:Bt)) (((((y5.drop y4.toNat).take (y6.toNat-y4.toNat)).length:Int)+(0:Int))+3) (fun y49=>(((decide (y1=45))=true→(I64 (0-y49)∧K (0-y49) true y6))∧((decide (y1=45))=false→K y49 true y6)))))))))))))∧(y32=false→(((y5.drop y4.toNat).take (y6.toNat-y4.toNat)).length+([]:Bt).length≤1099511627776∧(I64 ((((y5.drop y4.toNat).take (y6.toNat-y4.toNat)).length:Int)+(0:Int))∧(I64 (((((y5.drop y4.toNat).take (y6.toNat-y4.toNat)).length:Int)+(0:Int))+3)∧(A143 (((y5.drop y4.toNat).take (y6.toNat-y4.toNat))++([]:Bt)) (((((y5.drop y4.toNat).take (y6.toNat-y4.toNat)).length:Int)+(0:Int))+3) (fun y50=>(((decide (y1=45))=true→(I64 (0-y50)∧K (0-y50) true y6))∧((decide (y1=45))=false→K y50 true y6))))))))))))))))))))))∧(y3=false→(∃m,Ju A120 A81 m a1 a0 a1 (fun y51 y52 y53=>((0≤y51∧y51≤y53∧y53≤(y52.length:Int))∧(A124 y52 y53 (fun y54=>((y54=true→(I64 (y53+1)∧(∃m,Ju A120 A81 m (y53+1) y52 (y53+1) (fun y55 y56 y57=>((0≤y55∧y55≤y57∧y57≤(y56.length:Int))∧(A120 y56 y57 (fun y58=>(A140 y58 (fun y59=>((y59=true→(I64 (y57+1)∧(A141 y56 (y57+1) (fun y60=>((y60=true→(I64 (y57+1)∧(A120 y56 (y57+1) (fun y61=>(A120 y56 (y57+1) (fun y62=>(A123 y62 (fun y63=>((y63=true→(I64 ((y57+1)+1)∧(∃m,Ju A120 A81 m ((y57+1)+1) y56 ((y57+1)+1) (fun y64 y65 y66=>((0≤y64∧y64≤y66∧y66≤(y65.length:Int))∧(A142 ((y65.drop y64.toNat).take (y66.toNat-y64.toNat)) (fun y67=>(((decide (y61=45))=true→(I64 (0-y67)∧(((y52.drop y51.toNat).take (y53.toNat-y51.toNat)).length+((y56.drop y55.toNat).take (y57.toNat-y55.toNat)).length≤1099511627776∧(I64 ((((y52.drop y51.toNat).take (y53.toNat-y51.toNat)).length:Int)+(0-y67))∧(I64 (((((y52.drop y51.toNat).take (y53.toNat-y51.toNat)).length:Int)+(0-y67))+3)∧(A143 (((y52.drop y51.toNat).take (y53.toNat-y51.toNat))++((y56.drop y55.toNat).take (y57.toNat-y55.toNat))) (((((y52.drop y51.toNat).take (y53.toNat-y51.toNat)).length:Int)+(0-y67))+3) (fun y68=>(((decide (y1=45))=true→(I64 (0-y68)∧K (0-y68) false y66))∧((decide (y1=45))=false→K y68 false y66)))))))))∧((decide (y61=45))=false→(((y52.drop y51.toNat).take (y53.toNat-y51.toNat)).length+((y56.drop y55.toNat).take (y57.toNat-y55.toNat)).length≤1099511627776∧(I64 ((((y52.drop y51.toNat).take (y53.toNat-y51.toNat)).length:Int)+y67)∧(I64 (((((y52.drop y51.toNat).take (y53.toNat-y51.toNat)).length:Int)+y67)+(3:Int))∧(A143 (((y52.drop y51.toNat).take (y53.toNat-y51.toNat))++((y56.drop y55.toNat).take (y57.toNat-y55.toNat))) (((((y52.drop y51.toNat).take (y53.toNat-y51.toNat)).length:Int)+y67)+(3:Int)) (fun y69=>(((decide (y1=45))=true→(I64 (0-y69)∧K (0-y69) false y66))∧((decide (y1=45))=false→K y69 false y66))))))))))))))))∧(y63=false→(∃m,Ju A120 A81 m (y57+1) y56 (y57+1) (fun y70 y71 y72=>((0≤y70∧y70≤y72∧y72≤(y71.length:Int))∧(A142 ((y71.drop y70.toNat).take (y72.toNat-y70.toNat)) (fun y73=>(((decide (y61=45))=true→(I64 (0-y73)∧(((y52.drop y51.toNat).take (y53.toNat-y51.toNat)).length+((y56.drop y55.toNat).take (y57.toNat-y55.toNat)).length≤1099511627776∧(I64 ((((y52.drop y51.toNat).take (y53.toNat-y51.toNat)).length:Int)+(0-y73))∧(I64 (((((y52.drop y51.toNat).take (y53.toNat-y51.toNat)).length:Int)+(0-y73))+3)∧(A143 (((y52.drop y51.toNat).take (y53.toNat-y51.toNat))++((y56.drop y55.toNat).take (y57.toNat-y55.toNat))) (((((y52.drop y51.toNat).take (y53.toNat-y51.toNat)).length:Int)+(0-y73))+3) (fun y74=>(((decide (y1=45))=true→(I64 (0-y74)∧K (0-y74) false y72))∧((decide (y1=45))=false→K y74 false y72)))))))))∧((decide (y61=45))=false→(((y52.drop y51.toNat).take (y53.toNat-y51.toNat)).length+((y56.drop y55.toNat).take (y57.toNat-y55.toNat)).length≤1099511627776∧(I64 ((((y52.drop y51.toNat).take (y53.toNat-y51.toNat)).length:Int)+y73)∧(I64 (((((y52.drop y51.toNat).take (y53.toNat-y51.toNat)).length:Int)+y73)+(3:Int))∧(A143 (((y52.drop y51.toNat).take (y53.toNat-y51.toNat))++((y56.drop y55.toNat).take (y57.toNat-y55.toNat))) (((((y52.drop y51.toNat).take (y53.toNat-y51.toNat)).length:Int)+y73)+(3:Int)) (fun y75=>(((decide (y1=45))=true→(I64 (0-y75)∧K (0-y75) false y72))∧((decide (y1=45))=false→K y75 false y72))))))))))))))))))))))))∧(y60=false→(((y52.drop y51.toNat).take (y53.toNat-y51.toNat)).length+((y56.drop y55.toNat).take (y57.toNat-y55.toNat)).length≤1099511627776∧(I64 ((((y52.drop y51.toNat).take (y53.toNat-y51.toNat)).length:Int)+(0:Int))∧(I64 (((((y52.drop y51.toNat).take (y53.toNat-y51.toNat)).length:Int)+(0:Int))+3)∧(A143 (((y52.drop y51.toNat).take (y53.toNat-y51.toNat))++((y56.drop y55.toNat).take (y57.toNat-y55.toNat))) (((((y52.drop y51.toNat).take (y53.toNat-y51.toNat)).length:Int)+(0:Int))+3) (fun y76=>(((decide (y1=45))=true→(I64 (0-y76)∧K (0-y76) false y57))∧((decide (y1=45))=false→K y76 false y57)))))))))))))∧(y59=false→(((y52.drop y51.toNat).take (y53.toNat-y51.toNat)).length+((y56.drop y55.toNat).take (y57.toNat-y55.toNat)).length≤1099511627776∧(I64 ((((y52.drop y51.toNat).take (y53.toNat-y51.toNat)).length:Int)+(0:Int))∧(I64 (((((y52.drop y51.toNat).take (y53.toNat-y51.toNat)).length:Int)+(0:Int))+3)∧(A143 (((y52.drop y51.toNat).take (y53.toNat-y51.toNat))++((y56.drop y55.toNat).take (y57.toNat-y55.toNat))) (((((y52.drop y51.toNat).take (y53.toNat-y51.toNat)).length:Int)+(0:Int))+3) (fun y77=>(((decide (y1=45))=true→(I64 (0-y77)∧K (0-y77) false y57))∧((decide (y1=45))=false→K y77 false y57))))))))))))))))))∧(y54=false→(A120 y52 y53 (fun y78=>(A140 y78 (fun y79=>((y79=true→(I64 (y53+1)∧(A141 y52 (y53+1) (fun y80=>((y80=true→(I64 (y53+1)∧(A120 y52 (y53+1) (fun y81=>(A120 y52 (y53+1) (fun y82=>(A123 y82 (fun y83=>((y83=true→(I64 ((y53+1)+1)∧(∃m,Ju A120 A81 m ((y53+1)+1) y52 ((y53+1)+1) (fun y84 y85 y86=>((0≤y84∧y84≤y86∧y86≤(y85.length:Int))∧(A142 ((y85.drop y84.toNat).take (y86.toNat-y84.toNat)) (fun y87=>(((decide (y81=45))=true→(I64 (0-y87)∧(((y52.drop y51.toNat).take (y53.toNat-y51.toNat)).length+([]:Bt).length≤1099511627776∧(I64 ((((y52.drop y51.toNat).take (y53.toNat-y51.toNat)).length:Int)+(0-y87))∧(I64 (((((y52.drop y51.toNat).take (y53.toNat-y51.toNat)).length:Int)+(0-y87))+3)∧(A143 (((y52.drop y51.toNat).take (y53.toNat-y51.toNat))++([]:Bt)) (((((y52.drop y51.toNat).take (y53.toNat-y51.toNat)).length:Int)+(0-y87))+3) (fun y88=>(((decide (y1=45))=true→(I64 (0-y88)∧K (0-y88) false y86))∧((decide (y1=45))=false→K y88 false y86)))))))))∧((decide (y81=45))=false→(((y52.drop y51.toNat).take (y53.toNat-y51.toNat)).length+([]:Bt).length≤1099511627776∧(I64 ((((y52.drop y51.toNat).take (y53.toNat-y51.toNat)).length:Int)+y87)∧(I64 (((((y52.drop y51.toNat).take (y53.toNat-y51.toNat)).length:Int)+y87)+(3:Int))∧(A143 (((y52.drop y51.toNat).take (y53.toNat-y51.toNat))++([]:Bt)) (((((y52.drop y51.toNat).take (y53.toNat-y51.toNat)).length:Int)+y87)+(3:Int)) (fun y89=>(((decide (y1=45))=true→(I64 (0-y89)∧K (0-y89) false y86))∧((decide (y1=45))=false→K y89 false y86))))))))))))))))∧(y83=false→(∃m,Ju A120 A81 m (y53+1) y52 (y53+1) (fun y90 y91 y92=>((0≤y90∧y90≤y92∧y92≤(y91.length:Int))∧(A142 ((y91.drop y90.toNat).take (y92.toNat-y90.toNat)) (fun y93=>(((decide (y81=45))=true→(I64 (0-y93)∧(((y52.drop y51.toNat).take (y53.toNat-y51.toNat)).length+([]:Bt).length≤1099511627776∧(I64 ((((y52.drop y51.toNat).take (y53.toNat-y51.toNat)).length:Int)+(0-y93))∧(I64 (((((y52.drop y51.toNat).take (y53.toNat-y51.toNat)).length:Int)+(0-y93))+3)∧(A143 (((y52.drop y51.toNat).take (y53.toNat-y51.toNat))++([]:Bt)) (((((y52.drop y51.toNat).take (y53.toNat-y51.toNat)).length:Int)+(0-y93))+3) (fun y94=>(((decide (y1=45))=true→(I64 (0-y94)∧K (0-y94) false y92))∧((decide (y1=45))=false→K y94 false y92)))))))))∧((decide (y81=45))=false→(((y52.drop y51.toNat).take (y53.toNat-y51.toNat)).length+([]:Bt).length≤1099511627776∧(I64 ((((y52.drop y51.toNat).take (y53.toNat-y51.toNat)).length:Int)+y93)∧(I64 (((((y52.drop y51.toNat).take (y53.toNat-y51.toNat)).length:Int)+y93)+(3:Int))∧(A143 (((y52.drop y51.toNat).take (y53.toNat-y51.toNat))++([]:Bt)) (((((y52.drop y51.toNat).take (y53.toNat-y51.toNat)).length:Int)+y93)+(3:Int)) (fun y95=>(((decide (y1=45))=true→(I64 (0-y95)∧K (0-y95) false y92))∧((decide (y1=45))=false→K y95 false y92))))))))))))))))))))))))∧(y80=false→(((y52.drop y51.toNat).take (y53.toNat-y51.toNat)).length+([]:Bt).length≤1099511627776∧(I64 ((((y52.drop y51.toNat).take (y53.toNat-y51.toNat)).length:Int)+(0:Int))∧(I64 (((((y52.drop y51.toNat).take (y53.toNat-y51.toNat)).length:Int)+(0:Int))+3)∧(A143 (((y52.drop y51.toNat).take (y53.toNat-y51.toNat))++([]:Bt)) (((((y52.drop y51.toNat).take (y53.toNat-y51.toNat)).length:Int)+(0:Int))+3) (fun y96=>(((decide (y1=45))=true→(I64 (0-y96)∧K (0-y96) true y53))∧((decide (y1=45))=false→K y96 true y53)))))))))))))∧(y79=false→(((y52.drop y51.toNat).take (y53.toNat-y51.toNat)).length+([]:Bt).length≤1099511627776∧(I64 ((((y52.drop y51.toNat).take (y53.toNat-y51.toNat)).length:Int)+(0:Int))∧(I64 (((((y52.drop y51.toNat).take (y53.toNat-y51.toNat)).length:Int)+(0:Int))+3)∧(A143 (((y52.drop y51.toNat).take (y53.toNat-y51.toNat))++([]:Bt)) (((((y52.drop y51.toNat).take (y53.toNat-y51.toNat)).length:Int)+(0:Int))+3) (fun y97=>(((decide (y1=45))=true→(I64 (0-y97)∧K (0-y97) true y53))∧((decide (y1=45))=false→K y97 true y53))))))))))))))))))))))))))))
def zfq (A124:ZaR) (A120:Ja) (A140:zB) (A141:zO) (A142:zbW) (A143:jbW) (A123:zx) (A81:zc):Zj sg:=tab [(124,con [none,none] (jaY A124)),(120,con [none,none] (Jd A120)),(140,con [none] (Zw A140)),(141,con [none,none] (ZG A141)),(142,con [none] (jbB A142)),(143,con [none,none] (ZbC A143)),(138,inl sy Tryz.prog GT (JeU A120 A123) noL 1000 Tryz.f138.ntmps (za Tryz.f138) Tryz.f138.results.toList),(139,inl sy Tryz.prog GT (JdC A120 A81) (zbX A120 A81) 2 Tryz.f139.ntmps (za Tryz.f139) Tryz.f139.results.toList)]
theorem jgC (A124:ZaR) (A120:Ja) (A140:zB) (A141:zO) (A142:zbW) (A143:jbW) (A123:zx) (A81:zc) (h124:FO ro 124 (jaY A124)) (h120:FO ro 120 (Jd A120)) (h140:FO ro 140 (Zw A140)) (h141:FO ro 141 (ZG A141)) (h142:FO ro 142 (jbB A142)) (h143:FO ro 143 (ZbC A143)) (h123:FO ro 123 (ZI A123)) (h81:FO ro 81 (Zf A81)) (o0:Nat→Prop):JB sy Tryz.prog GT (ovD ro) o0 ro (zfq A124 A120 A140 A141 A142 A143 A123 A81):=(Za (Zc h124) (Za (Zc h120) (Za (Zc h140) (Za (Zc h141) (Za (Zc h142) (Za (Zc h143) (Za (Jc9 (f:=138) (fn:=Tryz.f138) (fun _ _=>rfl) Tryz.func138 (by kernel_rfl) rfl rfl (jfp A120 A123 h120 h123) (Ji (l:=[]) (by kernel_rfl) Zd)) (Za (Jc9 (f:=139) (fn:=Tryz.f139) (fun _ _=>rfl) Tryz.func139 (by kernel_rfl) rfl rfl (zdD A120 A81 h120 h81) (Jf5 A120 A81 h120 h81)) jd)))))))) o0
theorem ZgC (A124:ZaR) (A120:Ja) (A140:zB) (A141:zO) (A142:zbW) (A143:jbW) (A123:zx) (A81:zc) (a0:Bt) (a1:Int) (k:W→Prop):fnT sy Tryz.prog GT (zfq A124 A120 A140 A141 A142 A143 A123 A81) noL Tryz.f125.ntmps (za Tryz.f125) [none,none,none] Tryz.f125.results.toList [.s a0,.i .i64 a1] k=Jfp A124 A120 A140 A141 A142 A143 A123 A81 a0 a1 (fun r0 r1 r2=>k (.t [.i .i64 r0,.b r1,.i .i64 r2])):=by kernel_rfl
theorem Zhb (A124:ZaR) (A120:Ja) (A140:zB) (A141:zO) (A142:zbW) (A143:jbW) (A123:zx) (A81:zc) (h124:FO ro 124 (jaY A124)) (h120:FO ro 120 (Jd A120)) (h140:FO ro 140 (Zw A140)) (h141:FO ro 141 (ZG A141)) (h142:FO ro 142 (jbB A142)) (h143:FO ro 143 (ZbC A143)) (h123:FO ro 123 (ZI A123)) (h81:FO ro 81 (Zf A81)):FO ro 125 (JbC (Jfp A124 A120 A140 A141 A142 A143 A123 A81)):=(jx (rc:=[none,none,none]) (f:=125) (fn:=Tryz.f125) (c:=za Tryz.f125) (nt:=Tryz.f125.ntmps) (res:=Tryz.f125.results.toList) (C:=zfq A124 A120 A140 A141 A142 A143 A123 A81) (L:=noL) (fun _ _=>rfl) Tryz.func125 (by kernel_rfl) rfl rfl (jgC A124 A120 A140 A141 A142 A143 A123 A81 h124 h120 h140 h141 h142 h143 h123 h81) (Ji (l:=[]) (by kernel_rfl) Zd)).weak (by
 intro us k h;unfold JbC at h;split at h
 ·rw [ZgC];exact h
 ·exact h.elim)
abbrev Zr:=Int→(Bool→Prop)→Prop
def Jx (A:Zr) (us:List W) (k:W→Prop):Prop:=match us with
 | [.i .u8 a0]=>A a0 (fun r0=>k (.b r0))
 | _=>False
theorem ZcU {A A2:Zr} (h:FO ro 116 (Jx A)) (hA:∀a0 K,A2 a0 K→A a0 K):FO ro 116 (Jx A2):=h.weak (by
 intro us k h;unfold Jx at h ⊢;split at h
 ·exact hA _ _ h
 ·exact h.elim)
def zbf (a0:Int) (K:Bool→Prop):Prop:=
 (((decide ((97:Int)≤a0))=true→(((decide (a0≤122))=false→(((decide ((65:Int)≤a0))=true→K (decide (a0≤90)))∧((decide ((65:Int)≤a0))=false→K false)))∧((decide (a0≤122))=true→K true)))∧((decide ((97:Int)≤a0))=false→(((decide ((65:Int)≤a0))=true→K (decide (a0≤90)))∧((decide ((65:Int)≤a0))=false→K false))))
def ZbX:Zj sg:=tab []
theorem zd1 (o0:Nat→Prop):JB sy Tryz.prog GT (ovD ro) o0 ro (ZbX):=jd o0
theorem jd1 (a0:Int) (k:W→Prop):fnT sy Tryz.prog GT (ZbX) noL Tryz.f116.ntmps (za Tryz.f116) [none] Tryz.f116.results.toList [.i .u8 a0] k=zbf a0 (fun r0=>k (.b r0)):=by kernel_rfl
theorem Zeq:FO ro 116 (Jx (zbf)):=(jx (rc:=[none]) (f:=116) (fn:=Tryz.f116) (c:=za Tryz.f116) (nt:=Tryz.f116.ntmps) (res:=Tryz.f116.results.toList) (C:=ZbX) (L:=noL) (fun _ _=>rfl) Tryz.func116 (by kernel_rfl) rfl rfl (zd1) (Ji (l:=[]) (by kernel_rfl) Zd)).weak (by
 intro us k h;unfold Jx at h;split at h
 ·rw [jd1];exact h
 ·exact h.elim)
abbrev zm:=Int→(Bool→Prop)→Prop
def Jq (A:zm) (us:List W) (k:W→Prop):Prop:=match us with
 | [.i .u8 a0]=>A a0 (fun r0=>k (.b r0))
 | _=>False
theorem zcs {A A2:zm} (h:FO ro 80 (Jq A)) (hA:∀a0 K,A2 a0 K→A a0 K):FO ro 80 (Jq A2):=h.weak (by
 intro us k h;unfold Jq at h ⊢;split at h
 ·exact hA _ _ h
 ·exact h.elim)
def zaV (A116:Zr) (a0:Int) (K:Bool→Prop):Prop:=
 (A116 a0 (fun y1=>((y1=false→(((decide (a0=95))=false→K (decide ((128:Int)≤a0)))∧((decide (a0=95))=true→K true)))∧(y1=true→K true))))
def zbk (A116:Zr):Zj sg:=tab [(116,con [none] (Jx A116))]
theorem zdf (A116:Zr) (h116:FO ro 116 (Jx A116)) (o0:Nat→Prop):JB sy Tryz.prog GT (ovD ro) o0 ro (zbk A116):=(Za (Zc h116) jd) o0
theorem jdf (A116:Zr) (a0:Int) (k:W→Prop):fnT sy Tryz.prog GT (zbk A116) noL Tryz.f80.ntmps (za Tryz.f80) [none] Tryz.f80.results.toList [.i .u8 a0] k=zaV A116 a0 (fun r0=>k (.b r0)):=by kernel_rfl
theorem jdD (A116:Zr) (h116:FO ro 116 (Jx A116)):FO ro 80 (Jq (zaV A116)):=(jx (rc:=[none]) (f:=80) (fn:=Tryz.f80) (c:=za Tryz.f80) (nt:=Tryz.f80.ntmps) (res:=Tryz.f80.results.toList) (C:=zbk A116) (L:=noL) (fun _ _=>rfl) Tryz.func80 (by kernel_rfl) rfl rfl (zdf A116 h116) (Ji (l:=[]) (by kernel_rfl) Zd)).weak (by
 intro us k h;unfold Jq at h;split at h
 ·rw [jdf];exact h
 ·exact h.elim)
abbrev Zt:=Bt→Int→(Bool→Prop)→Prop
def jX (A:Zt) (us:List W) (k:W→Prop):Prop:=match us with
 | [.s a0,.i .i64 a1]=>A a0 a1 (fun r0=>k (.b r0))
 | _=>False
theorem zeW {A A2:Zt} (h:FO ro 122 (jX A)) (hA:∀a0 a1 K,A2 a0 a1 K→A a0 a1 K):FO ro 122 (jX A2):=h.weak (by
 intro us k h;unfold jX at h ⊢;split at h
 ·exact hA _ _ _ h
 ·exact h.elim)
def Jeq (A120:Ja) (a0:Bt) (a1:Int) (K:Bool→Prop):Prop:=
 (A120 a0 a1 (fun y1=>(((decide (y1=92))=true→(I64 (a1+1)∧(A120 a0 (a1+1) (fun y2=>K (decide (y2≠10))))))∧((decide (y1=92))=false→K false))))
def jfq (A120:Ja):Zj sg:=tab [(120,con [none,none] (Jd A120))]
theorem JgC (A120:Ja) (h120:FO ro 120 (Jd A120)) (o0:Nat→Prop):JB sy Tryz.prog GT (ovD ro) o0 ro (jfq A120):=(Za (Zc h120) jd) o0
theorem zgD (A120:Ja) (a0:Bt) (a1:Int) (k:W→Prop):fnT sy Tryz.prog GT (jfq A120) noL Tryz.f122.ntmps (za Tryz.f122) [none] Tryz.f122.results.toList [.s a0,.i .i64 a1] k=Jeq A120 a0 a1 (fun r0=>k (.b r0)):=by kernel_rfl
theorem Jhb (A120:Ja) (h120:FO ro 120 (Jd A120)):FO ro 122 (jX (Jeq A120)):=(jx (rc:=[none]) (f:=122) (fn:=Tryz.f122) (c:=za Tryz.f122) (nt:=Tryz.f122.ntmps) (res:=Tryz.f122.results.toList) (C:=jfq A120) (L:=noL) (fun _ _=>rfl) Tryz.func122 (by kernel_rfl) rfl rfl (JgC A120 h120) (Ji (l:=[]) (by kernel_rfl) Zd)).weak (by
 intro us k h;unfold jX at h;split at h
 ·rw [zgD];exact h
 ·exact h.elim)
abbrev zu:=Bt→Int→(Bool→Prop)→Prop
def zz (A:zu) (us:List W) (k:W→Prop):Prop:=match us with
 | [.s a0,.i .i64 a1]=>A a0 a1 (fun r0=>k (.b r0))
 | _=>False
theorem jcs {A A2:zu} (h:FO ro 97 (zz A)) (hA:∀a0 a1 K,A2 a0 a1 K→A a0 a1 K):FO ro 97 (zz A2):=h.weak (by
 intro us k h;unfold zz at h ⊢;split at h
 ·exact hA _ _ _ h
 ·exact h.elim)
def jaV (A120:Ja) (A80:zm) (A122:Zt) (a0:Bt) (a1:Int) (K:Bool→Prop):Prop:=
 (A120 a0 a1 (fun y1=>(((decide (y1≠45))=true→(A120 a0 a1 (fun y2=>(A80 y2 (fun y3=>((y3=false→(A122 a0 a1 (fun y4=>K y4)))∧(y3=true→K true)))))))∧((decide (y1≠45))=false→(I64 (a1+1)∧(A120 a0 (a1+1) (fun y5=>(A80 y5 (fun y6=>((y6=false→(((decide (y5=45))=false→(I64 (a1+1)∧(A122 a0 (a1+1) (fun y7=>K y7))))∧((decide (y5=45))=true→K true)))∧(y6=true→K true)))))))))))
def jbk (A120:Ja) (A80:zm) (A122:Zt):Zj sg:=tab [(120,con [none,none] (Jd A120)),(80,con [none] (Jq A80)),(122,con [none,none] (jX A122))]
theorem Zdf (A120:Ja) (A80:zm) (A122:Zt) (h120:FO ro 120 (Jd A120)) (h80:FO ro 80 (Jq A80)) (h122:FO ro 122 (jX A122)) (o0:Nat→Prop):JB sy Tryz.prog GT (ovD ro) o0 ro (jbk A120 A80 A122):=(Za (Zc h120) (Za (Zc h80) (Za (Zc h122) jd))) o0
theorem Jdf (A120:Ja) (A80:zm) (A122:Zt) (a0:Bt) (a1:Int) (k:W→Prop):fnT sy Tryz.prog GT (jbk A120 A80 A122) noL Tryz.f97.ntmps (za Tryz.f97) [none] Tryz.f97.results.toList [.s a0,.i .i64 a1] k=jaV A120 A80 A122 a0 a1 (fun r0=>k (.b r0)):=by kernel_rfl
theorem ZdD (A120:Ja) (A80:zm) (A122:Zt) (h120:FO ro 120 (Jd A120)) (h80:FO ro 80 (Jq A80)) (h122:FO ro 122 (jX A122)):FO ro 97 (zz (jaV A120 A80 A122)):=(jx (rc:=[none]) (f:=97) (fn:=Tryz.f97) (c:=za Tryz.f97) (nt:=Tryz.f97.ntmps) (res:=Tryz.f97.results.toList) (C:=jbk A120 A80 A122) (L:=noL) (fun _ _=>rfl) Tryz.func97 (by kernel_rfl) rfl rfl (Zdf A120 A80 A122 h120 h80 h122) (Ji (l:=[]) (by kernel_rfl) Zd)).weak (by
 intro us k h;unfold zz at h;split at h
 ·rw [Jdf];exact h
 ·exact h.elim)
abbrev zg:=Int→(Bool→Prop)→Prop
def Jp (A:zg) (us:List W) (k:W→Prop):Prop:=match us with
 | [.i .u8 a0]=>A a0 (fun r0=>k (.b r0))
 | _=>False
theorem JcU {A A2:zg} (h:FO ro 89 (Jp A)) (hA:∀a0 K,A2 a0 K→A a0 K):FO ro 89 (Jp A2):=h.weak (by
 intro us k h;unfold Jp at h ⊢;split at h
 ·exact hA _ _ h
 ·exact h.elim)
def jbf (A80:zm) (A81:zc) (a0:Int) (K:Bool→Prop):Prop:=
 (A80 a0 (fun y1=>((y1=false→(A81 a0 (fun y2=>((y2=false→K (decide (a0=45)))∧(y2=true→K true)))))∧(y1=true→K true))))
def JbX (A80:zm) (A81:zc):Zj sg:=tab [(80,con [none] (Jq A80)),(81,con [none] (Zf A81))]
theorem Zd1 (A80:zm) (A81:zc) (h80:FO ro 80 (Jq A80)) (h81:FO ro 81 (Zf A81)) (o0:Nat→Prop):JB sy Tryz.prog GT (ovD ro) o0 ro (JbX A80 A81):=(Za (Zc h80) (Za (Zc h81) jd)) o0
theorem Jd1 (A80:zm) (A81:zc) (a0:Int) (k:W→Prop):fnT sy Tryz.prog GT (JbX A80 A81) noL Tryz.f89.ntmps (za Tryz.f89) [none] Tryz.f89.results.toList [.i .u8 a0] k=jbf A80 A81 a0 (fun r0=>k (.b r0)):=by kernel_rfl
theorem zer (A80:zm) (A81:zc) (h80:FO ro 80 (Jq A80)) (h81:FO ro 81 (Zf A81)):FO ro 89 (Jp (jbf A80 A81)):=(jx (rc:=[none]) (f:=89) (fn:=Tryz.f89) (c:=za Tryz.f89) (nt:=Tryz.f89.ntmps) (res:=Tryz.f89.results.toList) (C:=JbX A80 A81) (L:=noL) (fun _ _=>rfl) Tryz.func89 (by kernel_rfl) rfl rfl (Zd1 A80 A81 h80 h81) (Ji (l:=[]) (by kernel_rfl) Zd)).weak (by
 intro us k h;unfold Jp at h;split at h
 ·rw [Jd1];exact h
 ·exact h.elim)
abbrev J4:=Bt→Int→(Bool→Prop)→Prop
def jaJ (A:J4) (us:List W) (k:W→Prop):Prop:=match us with
 | [.s a0,.i .i64 a1]=>A a0 a1 (fun r0=>k (.b r0))
 | _=>False
theorem jeW {A A2:J4} (h:FO ro 96 (jaJ A)) (hA:∀a0 a1 K,A2 a0 a1 K→A a0 a1 K):FO ro 96 (jaJ A2):=h.weak (by
 intro us k h;unfold jaJ at h ⊢;split at h
 ·exact hA _ _ _ h
 ·exact h.elim)
def jer (A120:Ja) (A89:zg) (A122:Zt) (a0:Bt) (a1:Int) (K:Bool→Prop):Prop:=
 (A120 a0 a1 (fun y1=>(A89 y1 (fun y2=>((y2=false→(A122 a0 a1 (fun y3=>K y3)))∧(y2=true→K true))))))
def Zfq (A120:Ja) (A89:zg) (A122:Zt):Zj sg:=tab [(120,con [none,none] (Jd A120)),(89,con [none] (Jp A89)),(122,con [none,none] (jX A122))]
theorem jgD (A120:Ja) (A89:zg) (A122:Zt) (h120:FO ro 120 (Jd A120)) (h89:FO ro 89 (Jp A89)) (h122:FO ro 122 (jX A122)) (o0:Nat→Prop):JB sy Tryz.prog GT (ovD ro) o0 ro (Zfq A120 A89 A122):=(Za (Zc h120) (Za (Zc h89) (Za (Zc h122) jd))) o0
theorem ZgD (A120:Ja) (A89:zg) (A122:Zt) (a0:Bt) (a1:Int) (k:W→Prop):fnT sy Tryz.prog GT (Zfq A120 A89 A122) noL Tryz.f96.ntmps (za Tryz.f96) [none] Tryz.f96.results.toList [.s a0,.i .i64 a1] k=jer A120 A89 A122 a0 a1 (fun r0=>k (.b r0)):=by kernel_rfl
theorem zhc (A120:Ja) (A89:zg) (A122:Zt) (h120:FO ro 120 (Jd A120)) (h89:FO ro 89 (Jp A89)) (h122:FO ro 122 (jX A122)):FO ro 96 (jaJ (jer A120 A89 A122)):=(jx (rc:=[none]) (f:=96) (fn:=Tryz.f96) (c:=za Tryz.f96) (nt:=Tryz.f96.ntmps) (res:=Tryz.f96.results.toList) (C:=Zfq A120 A89 A122) (L:=noL) (fun _ _=>rfl) Tryz.func96 (by kernel_rfl) rfl rfl (jgD A120 A89 A122 h120 h89 h122) (Ji (l:=[]) (by kernel_rfl) Zd)).weak (by
 intro us k h;unfold jaJ at h;split at h
 ·rw [ZgD];exact h
 ·exact h.elim)
abbrev Zb:=Int→(Bool→Prop)→Prop
def ji (A:Zb) (us:List W) (k:W→Prop):Prop:=match us with
 | [.i .u8 a0]=>A a0 (fun r0=>k (.b r0))
 | _=>False
theorem zdg {A A2:Zb} (h:FO ro 78 (ji A)) (hA:∀a0 K,A2 a0 K→A a0 K):FO ro 78 (ji A2):=h.weak (by
 intro us k h;unfold ji at h ⊢;split at h
 ·exact hA _ _ h
 ·exact h.elim)
def zbD (a0:Int) (K:Bool→Prop):Prop:=
 (((decide (a0=10))=false→(((decide (a0=9))=false→K (decide (a0=32)))∧((decide (a0=9))=true→K true)))∧((decide (a0=10))=true→K true))
def Zcs:Zj sg:=tab []
theorem Zer (o0:Nat→Prop):JB sy Tryz.prog GT (ovD ro) o0 ro (Zcs):=jd o0
theorem Jer (a0:Int) (k:W→Prop):fnT sy Tryz.prog GT (Zcs) noL Tryz.f78.ntmps (za Tryz.f78) [none] Tryz.f78.results.toList [.i .u8 a0] k=zbD a0 (fun r0=>k (.b r0)):=by kernel_rfl
theorem ZeW:FO ro 78 (ji (zbD)):=(jx (rc:=[none]) (f:=78) (fn:=Tryz.f78) (c:=za Tryz.f78) (nt:=Tryz.f78.ntmps) (res:=Tryz.f78.results.toList) (C:=Zcs) (L:=noL) (fun _ _=>rfl) Tryz.func78 (by kernel_rfl) rfl rfl (Zer) (Ji (l:=[]) (by kernel_rfl) Zd)).weak (by
 intro us k h;unfold ji at h;split at h
 ·rw [Jer];exact h
 ·exact h.elim)
abbrev zw:=Int→(Bool→Prop)→Prop
def JD (A:zw) (us:List W) (k:W→Prop):Prop:=match us with
 | [.i .u8 a0]=>A a0 (fun r0=>k (.b r0))
 | _=>False
theorem jdg {A A2:zw} (h:FO ro 79 (JD A)) (hA:∀a0 K,A2 a0 K→A a0 K):FO ro 79 (JD A2):=h.weak (by
 intro us k h;unfold JD at h ⊢;split at h
 ·exact hA _ _ h
 ·exact h.elim)
def jbD (a0:Int) (K:Bool→Prop):Prop:=
 (((decide (a0=34))=false→K (decide (a0=39)))∧((decide (a0=34))=true→K true))
def Jcs:Zj sg:=tab []
theorem zes (o0:Nat→Prop):JB sy Tryz.prog GT (ovD ro) o0 ro (Jcs):=jd o0
theorem jes (a0:Int) (k:W→Prop):fnT sy Tryz.prog GT (Jcs) noL Tryz.f79.ntmps (za Tryz.f79) [none] Tryz.f79.results.toList [.i .u8 a0] k=jbD a0 (fun r0=>k (.b r0)):=by kernel_rfl
theorem JeW:FO ro 79 (JD (jbD)):=(jx (rc:=[none]) (f:=79) (fn:=Tryz.f79) (c:=za Tryz.f79) (nt:=Tryz.f79.ntmps) (res:=Tryz.f79.results.toList) (C:=Jcs) (L:=noL) (fun _ _=>rfl) Tryz.func79 (by kernel_rfl) rfl rfl (zes) (Ji (l:=[]) (by kernel_rfl) Zd)).weak (by
 intro us k h;unfold JD at h;split at h
 ·rw [jes];exact h
 ·exact h.elim)
abbrev jO:=Bt→Int→(Int→Prop)→Prop
def jao (A:jO) (us:List W) (k:W→Prop):Prop:=match us with
 | [.s a0,.i .i64 a1]=>A a0 a1 (fun r0=>k (.i .i64 r0))
 | _=>False
theorem zeX {A A2:jO} (h:FO ro 94 (jao A)) (hA:∀a0 a1 K,A2 a0 a1 K→A a0 a1 K):FO ro 94 (jao A2):=h.weak (by
 intro us k h;unfold jao at h ⊢;split at h
 ·exact hA _ _ _ h
 ·exact h.elim)
def Jcb (A120:Ja) (A78:Zb):Nat→Bt→Int→(Int→Prop)→Prop
 | 0,_,_,_=>False
 | n+1,x0,x1,Ke=>(A120 x0 x1 (fun y1=>(A78 y1 (fun y2=>((y2=true→(I64 (x1+1)∧Jcb A120 A78 n x0 (x1+1) Ke))∧(y2=false→Ke x1))))))
def Jfq (A120:Ja) (A78:Zb) (a0:Bt) (a1:Int) (K:Int→Prop):Prop:=
 (∃m,Jcb A120 A78 m a0 a1 (fun y1=>K y1))
def Zes (A120:Ja) (A78:Zb):Zj sg:=tab [(120,con [none,none] (Jd A120)),(78,con [none] (ji A78))]
theorem jeX (A120:Ja) (A78:Zb) (h120:FO ro 120 (Jd A120)) (h78:FO ro 78 (ji A78)) (o0:Nat→Prop):JB sy Tryz.prog GT (ovD ro) o0 ro (Zes A120 A78):=(Za (Zc h120) (Za (Zc h78) jd)) o0
abbrev zcV:Type:=((Bt)×Int×Unit)
abbrev Yb_k_bSp_1:Type:=Unit
def ls_k_bSp_1:LS sy zcV Yb_k_bSp_1:=⟨[],Jc 0 (Zl sy) (Jc 1 (Je sy .i64) (JC sy)),zD sy,0,[]⟩
def le_k_bSp_1:LS sy (Int×Unit) Unit:=⟨[],Jc 1 (Je sy .i64) (JC sy),zD sy,0,[]⟩
def jcV:LS sy Unit Unit:=⟨[],JC sy,zD sy,0,[]⟩
def zcc (A120:Ja) (A78:Zb) (n:Nat) (x:zcV×Yb_k_bSp_1) (K:Ex→Z sg→Prop):Prop:=Jcb A120 A78 n x.1.1 x.1.2.1 (fun y0=>K (.exit 0) (le_k_bSp_1.put ((y0,()),())))
def JgD (A120:Ja) (A78:Zb) (z:Z sg) (K:Ex→Z sg→Prop):Prop:=ls_k_bSp_1.get z (fun x=>∃n,zcc A120 A78 n x K)
def ZcV (A120:Ja) (A78:Zb):ZW sg:=jcm [(1,JgD A120 A78)]
theorem zf6 (A120:Ja) (A78:Zb) (n:Nat) (x:zcV×Yb_k_bSp_1) (K:Ex→Z sg→Prop):zt (ls_k_bSp_1.put x) (fun z=>sC sy Tryz.prog GT (Zes A120 A78) (ZcV A120 A78) Tryz.f94.ntmps (zb (za Tryz.f94) 0) z (rnd ls_k_bSp_1 (czT 0 le_k_bSp_1 jcV) (fun x=>zcc A120 A78 n x K) K))=zcc A120 A78 (n+1) x K:=by kernel_rfl
theorem jf6 (A120:Ja) (A78:Zb) (z:Z sg) (K:Ex→Z sg→Prop):(ZcV A120 A78) (zb (za Tryz.f94) 0) z K=ls_k_bSp_1.get z (fun x=>∃n,zcc A120 A78 n x K):=by kernel_rfl
theorem Zf6 (A120:Ja) (A78:Zb) (h120:FO ro 120 (Jd A120)) (h78:FO ro 78 (ji A78)):∀(o0:Nat→Prop) (B:Bs sg),B.E.length≤0→∀z K,(ZcV A120 A78) (zb (za Tryz.f94) 0) z K→Sx.Sem sy Tryz.prog GT (ovD ro) o0 ro Tryz.f94.ntmps B (.loop (zb (za Tryz.f94) 0)) z K:=
 ZD (jeX A120 A78 h120 h78) (Ji (l:=[]) (by kernel_rfl) Zd) ls_k_bSp_1 (by decide) (czT 0 le_k_bSp_1 jcV) (fun _ _ hB=>ZV 0 le_k_bSp_1 jcV (Nat.le_trans hB (by decide)) (Nat.le_trans hB (by decide))) (fun _ _ h=>h) (zf6 A120 A78) (jf6 A120 A78)
theorem jhc (A120:Ja) (A78:Zb) (h120:FO ro 120 (Jd A120)) (h78:FO ro 78 (ji A78)):jbV sy Tryz.prog GT (ovD ro) ro (ZcV A120 A78) 0 Tryz.f94.ntmps (za Tryz.f94):=Ji (l:=[(zb (za Tryz.f94) 0)]) (by kernel_rfl) (jD (Zf6 A120 A78 h120 h78) Zd)
theorem zgE (A120:Ja) (A78:Zb) (a0:Bt) (a1:Int) (k:W→Prop):fnT sy Tryz.prog GT (Zes A120 A78) (ZcV A120 A78) Tryz.f94.ntmps (za Tryz.f94) [none] Tryz.f94.results.toList [.s a0,.i .i64 a1] k=Jfq A120 A78 a0 a1 (fun r0=>k (.i .i64 r0)):=by kernel_rfl
theorem Zhc (A120:Ja) (A78:Zb) (h120:FO ro 120 (Jd A120)) (h78:FO ro 78 (ji A78)):FO ro 94 (jao (Jfq A120 A78)):=(jx (rc:=[none]) (f:=94) (fn:=Tryz.f94) (c:=za Tryz.f94) (nt:=Tryz.f94.ntmps) (res:=Tryz.f94.results.toList) (C:=Zes A120 A78) (L:=(ZcV A120 A78)) (fun _ _=>rfl) Tryz.func94 (by kernel_rfl) rfl rfl (jeX A120 A78 h120 h78) (jhc A120 A78 h120 h78)).weak (by
 intro us k h;unfold jao at h;split at h
 ·rw [zgE];exact h
 ·exact h.elim)
abbrev Zbf:=Bt→Bt→(Bool→Prop)→Prop
def za2 (A:Zbf) (us:List W) (k:W→Prop):Prop:=match us with
 | [.s a0,.s a1]=>A a0 a1 (fun r0=>k (.b r0))
 | _=>False
theorem Jes {A A2:Zbf} (h:FO ro 118 (za2 A)) (hA:∀a0 a1 K,A2 a0 a1 K→A a0 a1 K):FO ro 118 (za2 A2):=h.weak (by
 intro us k h;unfold za2 at h ⊢;split at h
 ·exact hA _ _ _ h
 ·exact h.elim)
def zet (a0:Bt) (a1:Bt) (K:Bool→Prop):Prop:=
 (((decide ((a1.length:Int)≤(a0.length:Int)))=true→((0≤(a1.length:Int)∧(a1.length:Int)≤(a0.length:Int))∧K ((a0.take (a1.length:Int).toNat)==a1)))∧((decide ((a1.length:Int)≤(a0.length:Int)))=false→K false))
def jet:Zj sg:=tab []
theorem Jf6 (o0:Nat→Prop):JB sy Tryz.prog GT (ovD ro) o0 ro (jet):=jd o0
theorem zf7 (a0:Bt) (a1:Bt) (k:W→Prop):fnT sy Tryz.prog GT (jet) noL Tryz.f118.ntmps (za Tryz.f118) [none] Tryz.f118.results.toList [.s a0,.s a1] k=zet a0 a1 (fun r0=>k (.b r0)):=by kernel_rfl
theorem jgE:FO ro 118 (za2 (zet)):=(jx (rc:=[none]) (f:=118) (fn:=Tryz.f118) (c:=za Tryz.f118) (nt:=Tryz.f118.ntmps) (res:=Tryz.f118.results.toList) (C:=jet) (L:=noL) (fun _ _=>rfl) Tryz.func118 (by kernel_rfl) rfl rfl (Jf6) (Ji (l:=[]) (by kernel_rfl) Zd)).weak (by
 intro us k h;unfold za2 at h;split at h
 ·rw [zf7];exact h
 ·exact h.elim)
abbrev jB:=Bt→Bt→(Bool→Prop)→Prop
def JY (A:jB) (us:List W) (k:W→Prop):Prop:=match us with
 | [.s a0,.s a1]=>A a0 a1 (fun r0=>k (.b r0))
 | _=>False
theorem Zet {A A2:jB} (h:FO ro 92 (JY A)) (hA:∀a0 a1 K,A2 a0 a1 K→A a0 a1 K):FO ro 92 (JY A2):=h.weak (by
 intro us k h;unfold JY at h ⊢;split at h
 ·exact hA _ _ _ h
 ·exact h.elim)
def Jet (A118:Zbf) (a0:Bt) (a1:Bt) (K:Bool→Prop):Prop:=
 (A118 a0 a1 (fun y1=>K y1))
def zeu (A118:Zbf):Zj sg:=tab [(118,con [none,none] (za2 A118))]
theorem jf7 (A118:Zbf) (h118:FO ro 118 (za2 A118)) (o0:Nat→Prop):JB sy Tryz.prog GT (ovD ro) o0 ro (zeu A118):=(Za (Zc h118) jd) o0
theorem Zf7 (A118:Zbf) (a0:Bt) (a1:Bt) (k:W→Prop):fnT sy Tryz.prog GT (zeu A118) noL Tryz.f92.ntmps (za Tryz.f92) [none] Tryz.f92.results.toList [.s a0,.s a1] k=Jet A118 a0 a1 (fun r0=>k (.b r0)):=by kernel_rfl
theorem ZgE (A118:Zbf) (h118:FO ro 118 (za2 A118)):FO ro 92 (JY (Jet A118)):=(jx (rc:=[none]) (f:=92) (fn:=Tryz.f92) (c:=za Tryz.f92) (nt:=Tryz.f92.ntmps) (res:=Tryz.f92.results.toList) (C:=zeu A118) (L:=noL) (fun _ _=>rfl) Tryz.func92 (by kernel_rfl) rfl rfl (jf7 A118 h118) (Ji (l:=[]) (by kernel_rfl) Zd)).weak (by
 intro us k h;unfold JY at h;split at h
 ·rw [Zf7];exact h
 ·exact h.elim)
abbrev jg:=Bt→(Bool→Prop)→Prop
def jl (A:jg) (us:List W) (k:W→Prop):Prop:=match us with
 | [.s a0]=>A a0 (fun r0=>k (.b r0))
 | _=>False
theorem Jbc {A A2:jg} (h:FO ro 91 (jl A)) (hA:∀a0 K,A2 a0 K→A a0 K):FO ro 91 (jl A2):=h.weak (by
 intro us k h;unfold jl at h ⊢;split at h
 ·exact hA _ _ h
 ·exact h.elim)
def Zao (a0:Bt) (K:Bool→Prop):Prop:=
 (((decide ((0:Int)<(a0.length:Int)))=true→((0≤(0:Int)∧(0:Int)<(a0.length:Int))∧K (decide (((a0.getD 0 0).toNat:Int)=(10:Int)))))∧((decide ((0:Int)<(a0.length:Int)))=false→K false))
def Jao:Zj sg:=tab []
theorem ZbD (o0:Nat→Prop):JB sy Tryz.prog GT (ovD ro) o0 ro (Jao):=jd o0
theorem JbD (a0:Bt) (k:W→Prop):fnT sy Tryz.prog GT (Jao) noL Tryz.f91.ntmps (za Tryz.f91) [none] Tryz.f91.results.toList [.s a0] k=Zao a0 (fun r0=>k (.b r0)):=by kernel_rfl
theorem zbP:FO ro 91 (jl (Zao)):=(jx (rc:=[none]) (f:=91) (fn:=Tryz.f91) (c:=za Tryz.f91) (nt:=Tryz.f91.ntmps) (res:=Tryz.f91.results.toList) (C:=Jao) (L:=noL) (fun _ _=>rfl) Tryz.func91 (by kernel_rfl) rfl rfl (ZbD) (Ji (l:=[]) (by kernel_rfl) Zd)).weak (by
 intro us k h;unfold jl at h;split at h
 ·rw [JbD];exact h
 ·exact h.elim)
abbrev jL:=Bt→(Bt→Int→Prop)→Prop
def jah (A:jL) (us:List W) (k:W→Prop):Prop:=match us with
 | [.s a0]=>A a0 (fun r0 r1=>k (.t [.s r0,.i .i64 r1]))
 | _=>False
theorem zd2 {A A2:jL} (h:FO ro 67 (jah A)) (hA:∀a0 K,A2 a0 K→A a0 K):FO ro 67 (jah A2):=h.weak (by
 intro us k h;unfold jah at h ⊢;split at h
 ·exact hA _ _ h
 ·exact h.elim)
def zad (A91:jg):Nat→Bt→Int→Bt→(Bt→Prop)→Prop
 | 0,_,_,_,_=>False
 | n+1,x0,x5,b0,Ke=>(((decide (x5<(x0.length:Int)))=true→((0≤x5∧x5<(x0.length:Int))∧(((decide (((x0.getD x5.toNat 0).toNat:Int)=(0:Int)))=true→((b0.length+([239,191,189]:Bt).length)*1≤1099511627776∧(I64 (x5+1)∧zad A91 n x0 (x5+1) (b0++([239,191,189]:Bt)) Ke)))∧((decide (((x0.getD x5.toNat 0).toNat:Int)=(0:Int)))=false→(((decide (((x0.getD x5.toNat 0).toNat:Int)=(12:Int)))=true→((0≤(10:Int)∧(10:Int)≤255)∧((b0.length+[UInt8.ofNat 10].length)*1≤1099511627776∧(I64 (x5+1)∧zad A91 n x0 (x5+1) (b0++[UInt8.ofNat 10]) Ke))))∧((decide (((x0.getD x5.toNat 0).toNat:Int)=(12:Int)))=false→(((decide (((x0.getD x5.toNat 0).toNat:Int)=(13:Int)))=true→(I64 (x5+1)∧((0≤(x5+1)∧(x5+1)≤(x0.length:Int))∧(A91 (x0.drop (x5+1).toNat) (fun y1=>(((!y1)=true→((0≤(10:Int)∧(10:Int)≤255)∧((b0.length+[UInt8.ofNat 10].length)*1≤1099511627776∧(I64 (x5+1)∧zad A91 n x0 (x5+1) (b0++[UInt8.ofNat 10]) Ke))))∧((!y1)=false→(I64 (x5+1)∧zad A91 n x0 (x5+1) b0 Ke))))))))∧((decide (((x0.getD x5.toNat 0).toNat:Int)=(13:Int)))=false→((0≤x5∧x5<(x0.length:Int))∧((0≤((x0.getD x5.toNat 0).toNat:Int)∧((x0.getD x5.toNat 0).toNat:Int)≤255)∧((b0.length+[UInt8.ofNat (((x0.getD x5.toNat 0).toNat:Int).toNat)].length)*1≤1099511627776∧(I64 (x5+1)∧zad A91 n x0 (x5+1) (b0++[UInt8.ofNat (((x0.getD x5.toNat 0).toNat:Int).toNat)]) Ke))))))))))))∧((decide (x5<(x0.length:Int)))=false→Ke b0))
def JdD (A91:jg) (a0:Bt) (K:Bt→Int→Prop):Prop:=
 (((decide ((4000:Int)<(a0.length:Int)))=true→K ([]:Bt) (28:Int))∧((decide ((4000:Int)<(a0.length:Int)))=false→((0≤(0:Int)∧(0:Int)≤(a0.length:Int)∧1*(a0.length:Int)≤1099511627776∧(a0.length:Int)≤1099511627776)∧((0≤(0:Int)∧(0:Int)≤255)∧(∃m,zad A91 m a0 (0:Int) (List.replicate 0 (UInt8.ofNat 0)) (fun y1=>K y1 (0:Int)))))))
def jcD (A91:jg):Zj sg:=tab [(91,con [none] (jl A91))]
theorem zdE (A91:jg) (h91:FO ro 91 (jl A91)) (o0:Nat→Prop):JB sy Tryz.prog GT (ovD ro) o0 ro (jcD A91):=(Za (Zc h91) jd) o0
abbrev zbY:Type:=((Bt)×Unit×Int×Unit)
abbrev Yb_i_Clean_5:Type:=(List (sg.Den Cd.u8)×Unit)
def ls_i_Clean_5:LS sy zbY Yb_i_Clean_5:=⟨[],Jc 0 (Zl sy) (Jc 4 (jK sy (.o 0)) (Jc 5 (Je sy .i64) (JC sy))),zQ 0 Cd.u8 (zD sy),1,[0]⟩
def le_i_Clean_5:LS sy (Unit×Unit) (List (sg.Den Cd.u8)×Unit):=⟨[],Jc 4 (jK sy (.o 0)) (JC sy),zQ 0 Cd.u8 (zD sy),1,[0]⟩
def jbY:LS sy Unit Unit:=⟨[],JC sy,zD sy,0,[]⟩
def Jbf (A91:jg) (n:Nat) (x:zbY×Yb_i_Clean_5) (K:Ex→Z sg→Prop):Prop:=zad A91 n x.1.1 x.1.2.2.1 x.2.1 (fun y0=>K (.exit 0) (le_i_Clean_5.put (((),()),(y0,()))))
def zfr (A91:jg) (z:Z sg) (K:Ex→Z sg→Prop):Prop:=ls_i_Clean_5.get z (fun x=>∃n,Jbf A91 n x K)
def Jbs (A91:jg):ZW sg:=jcm [(5,zfr A91)]
theorem ZeX (A91:jg) (n:Nat) (x:zbY×Yb_i_Clean_5) (K:Ex→Z sg→Prop):zt (ls_i_Clean_5.put x) (fun z=>sC sy Tryz.prog GT (jcD A91) (Jbs A91) Tryz.f67.ntmps (zb (za Tryz.f67) 0) z (rnd ls_i_Clean_5 (czT 0 le_i_Clean_5 jbY) (fun x=>Jbf A91 n x K) K))=Jbf A91 (n+1) x K:=by kernel_rfl
theorem JeX (A91:jg) (z:Z sg) (K:Ex→Z sg→Prop):(Jbs A91) (zb (za Tryz.f67) 0) z K=ls_i_Clean_5.get z (fun x=>∃n,Jbf A91 n x K):=by kernel_rfl
theorem zeY (A91:jg) (h91:FO ro 91 (jl A91)):∀(o0:Nat→Prop) (B:Bs sg),B.E.length≤0→∀z K,(Jbs A91) (zb (za Tryz.f67) 0) z K→Sx.Sem sy Tryz.prog GT (ovD ro) o0 ro Tryz.f67.ntmps B (.loop (zb (za Tryz.f67) 0)) z K:=
 ZD (zdE A91 h91) (Ji (l:=[]) (by kernel_rfl) Zd) ls_i_Clean_5 (by decide) (czT 0 le_i_Clean_5 jbY) (fun _ _ hB=>ZV 0 le_i_Clean_5 jbY (Nat.le_trans hB (by decide)) (Nat.le_trans hB (by decide))) (fun _ _ h=>h) (ZeX A91) (JeX A91)
theorem Jf7 (A91:jg) (h91:FO ro 91 (jl A91)):jbV sy Tryz.prog GT (ovD ro) ro (Jbs A91) 0 Tryz.f67.ntmps (za Tryz.f67):=Ji (l:=[(zb (za Tryz.f67) 0)]) (by kernel_rfl) (jD (zeY A91 h91) Zd)
theorem jfr (A91:jg) (a0:Bt) (k:W→Prop):fnT sy Tryz.prog GT (jcD A91) (Jbs A91) Tryz.f67.ntmps (za Tryz.f67) [none,none] Tryz.f67.results.toList [.s a0] k=JdD A91 a0 (fun r0 r1=>k (.t [.s r0,.i .i64 r1])):=by kernel_rfl
theorem zf8 (A91:jg) (h91:FO ro 91 (jl A91)):FO ro 67 (jah (JdD A91)):=(jx (rc:=[none,none]) (f:=67) (fn:=Tryz.f67) (c:=za Tryz.f67) (nt:=Tryz.f67.ntmps) (res:=Tryz.f67.results.toList) (C:=jcD A91) (L:=(Jbs A91)) (fun _ _=>rfl) Tryz.func67 (by kernel_rfl) rfl rfl (zdE A91 h91) (Jf7 A91 h91)).weak (by
 intro us k h;unfold jah at h;split at h
 ·rw [jfr];exact h
 ·exact h.elim)
end Go.Proofs.YtmnegokadegioaaGreatDoor
