/-
 Functions of the tokenizer, followed. Nothing is claimed here.
-/
import Derived.Test.YtmnegokadegioaaGreatDoorTa
import Derived.Test.YtmnegokadegioaaGreatDoorOb
import Derived.Test.YtmnegokadegioaaGreatDoorSa2
namespace Go.Proofs.YtmnegokadegioaaGreatDoor
open Go.Vm Go.Sx Go.RowKit
variable {ro:Nat}
def marksL:List Int:=[0,0,0,0,0,0,0,0,0,0,0,0,0,0,0,0,0,0,0,0,0,0,0,0,0,0,0,0,0,0,0,0,0,0,0,0,0,0,0,0,21,22,0,0,18,0,0,0,0,0,0,0,0,0,0,0,0,0,16,17,0,0,0,0,0,0,0,0,0,0,0,0,0,0,0,0,0,0,0,0,0,0,0,0,0,0,0,0,0,0,0,19,0,20,0,0,0,0,0,0,0,0,0,0,0,0,0,0,0,0,0,0,0,0,0,0,0,0,0,0,0,0,0,23,0,24]
def GT:Gl
 | 0=>some (.u8,marksL)
 | _=>none
noncomputable def ovD (ro:Nat):Ov:=ovA ro
abbrev FO (ro:Nat) (f:FuncId) (pt:List W→(W→Prop)→Prop):Prop:=FnOK sy Tryz.prog GT (ovD ro) ro f pt
def noT (_:List W) (_:W→Prop):Prop:=False
theorem Zgv {ro:Nat} (f:FuncId):FO ro f noT:=fun _ _ _ h=>h.elim
theorem Jgv {ro:Nat}:∀args st v st',Jhx Tryz.prog 83 44 ro 83 args st=some (v,st')→ovD ro 83 args st=some (v,st'):=fun args st v st' h=>by
 unfold ovD ovA ov2 ovN;show (match (none:Option (V×St)) with|some r=>some r|none=>match Jhx Tryz.prog 83 44 ro 83 args st with|some r=>some r|none=>_)=_
 rw [h]
abbrev Ja:=Bt→Int→(Int→Prop)→Prop
def jd (A:Ja) (us:List W) (k:W→Prop):Prop:=match us with
 | [.s a0,.i .i64 a1]=>A a0 a1 (fun r0=>k (.i .u8 r0))
 | _=>False
theorem Zdz {A A2:Ja} (h:FO ro 120 (jd A)) (hA:∀a0 a1 K,A2 a0 a1 K→A a0 a1 K):FO ro 120 (jd A2):=h.weak (by
 intro us k h;unfold jd at h ⊢;split at h
 ·exact hA _ _ _ h
 ·exact h.elim)
def zb8 (a0:Bt) (a1:Int) (K:Int→Prop):Prop:=
 (((decide (a1<(a0.length:Int)))=true→((0≤a1∧a1<(a0.length:Int))∧K ((a0.getD a1.toNat 0).toNat:Int)))∧((decide (a1<(a0.length:Int)))=false→K (0:Int)))
def jcP:jj sg:=tab []
theorem zeQ (o0:Nat→Prop):zB sy Tryz.prog GT (ovD ro) o0 ro (jcP):=Zd o0
theorem jeQ (a0:Bt) (a1:Int) (k:W→Prop):fnT sy Tryz.prog GT (jcP) noL Tryz.f120.ntmps (za Tryz.f120) [none] Tryz.f120.results.toList [.s a0,.i .i64 a1] k=zb8 a0 a1 (fun r0=>k (.i .u8 r0)):=by kernel_rfl
theorem Jfi:FO ro 120 (jd (zb8)):=(zx (rc:=[none]) (f:=120) (fn:=Tryz.f120) (c:=za Tryz.f120) (nt:=Tryz.f120.ntmps) (res:=Tryz.f120.results.toList) (C:=jcP) (L:=noL) (fun _ _=>rfl) Tryz.func120 (by kernel_rfl) rfl rfl (zeQ) (Ji (l:=[]) (by kernel_rfl) je)).weak (by
 intro us k h;unfold jd at h;split at h
 ·rw [jeQ];exact h
 ·exact h.elim)
abbrev zc:=Int→(Bool→Prop)→Prop
def Zf (A:zc) (us:List W) (k:W→Prop):Prop:=match us with
 | [.i .u8 a0]=>A a0 (fun r0=>k (.b r0))
 | _=>False
theorem Jdc {A A2:zc} (h:FO ro 81 (Zf A)) (hA:∀a0 K,A2 a0 K→A a0 K):FO ro 81 (Zf A2):=h.weak (by
 intro us k h;unfold Zf at h ⊢;split at h
 ·exact hA _ _ h
 ·exact h.elim)
def Zbx (a0:Int) (K:Bool→Prop):Prop:=
 (((decide ((48:Int)≤a0))=true→K (decide (a0≤57)))∧((decide ((48:Int)≤a0))=false→K false))
def Jcn:jj sg:=tab []
theorem Zel (o0:Nat→Prop):zB sy Tryz.prog GT (ovD ro) o0 ro (Jcn):=Zd o0
theorem Jel (a0:Int) (k:W→Prop):fnT sy Tryz.prog GT (Jcn) noL Tryz.f81.ntmps (za Tryz.f81) [none] Tryz.f81.results.toList [.i .u8 a0] k=Zbx a0 (fun r0=>k (.b r0)):=by kernel_rfl
theorem ZeQ:FO ro 81 (Zf (Zbx)):=(zx (rc:=[none]) (f:=81) (fn:=Tryz.f81) (c:=za Tryz.f81) (nt:=Tryz.f81.ntmps) (res:=Tryz.f81.results.toList) (C:=Jcn) (L:=noL) (fun _ _=>rfl) Tryz.func81 (by kernel_rfl) rfl rfl (Zel) (Ji (l:=[]) (by kernel_rfl) je)).weak (by
 intro us k h;unfold Zf at h;split at h
 ·rw [Jel];exact h
 ·exact h.elim)
abbrev Zw:=Int→(Bool→Prop)→Prop
def JH (A:Zw) (us:List W) (k:W→Prop):Prop:=match us with
 | [.i .u8 a0]=>A a0 (fun r0=>k (.b r0))
 | _=>False
theorem Jdz {A A2:Zw} (h:FO ro 123 (JH A)) (hA:∀a0 K,A2 a0 K→A a0 K):FO ro 123 (JH A2):=h.weak (by
 intro us k h;unfold JH at h ⊢;split at h
 ·exact hA _ _ h
 ·exact h.elim)
def jb8 (a0:Int) (K:Bool→Prop):Prop:=
 (((decide (a0=43))=false→K (decide (a0=45)))∧((decide (a0=43))=true→K true))
def ZcP:jj sg:=tab []
theorem JeQ (o0:Nat→Prop):zB sy Tryz.prog GT (ovD ro) o0 ro (ZcP):=Zd o0
theorem zeR (a0:Int) (k:W→Prop):fnT sy Tryz.prog GT (ZcP) noL Tryz.f123.ntmps (za Tryz.f123) [none] Tryz.f123.results.toList [.i .u8 a0] k=jb8 a0 (fun r0=>k (.b r0)):=by kernel_rfl
theorem zfj:FO ro 123 (JH (jb8)):=(zx (rc:=[none]) (f:=123) (fn:=Tryz.f123) (c:=za Tryz.f123) (nt:=Tryz.f123.ntmps) (res:=Tryz.f123.results.toList) (C:=ZcP) (L:=noL) (fun _ _=>rfl) Tryz.func123 (by kernel_rfl) rfl rfl (JeQ) (Ji (l:=[]) (by kernel_rfl) je)).weak (by
 intro us k h;unfold JH at h;split at h
 ·rw [zeR];exact h
 ·exact h.elim)
abbrev ZaP:=Bt→Int→(Bool→Prop)→Prop
def ZaW (A:ZaP) (us:List W) (k:W→Prop):Prop:=match us with
 | [.s a0,.i .i64 a1]=>A a0 a1 (fun r0=>k (.b r0))
 | _=>False
theorem jeR {A A2:ZaP} (h:FO ro 124 (ZaW A)) (hA:∀a0 a1 K,A2 a0 a1 K→A a0 a1 K):FO ro 124 (ZaW A2):=h.weak (by
 intro us k h;unfold ZaW at h ⊢;split at h
 ·exact hA _ _ _ h
 ·exact h.elim)
def zem (A120:Ja) (A81:zc) (a0:Bt) (a1:Int) (K:Bool→Prop):Prop:=
 (A120 a0 a1 (fun y1=>(((decide (y1=46))=true→(I64 (a1+1)∧(A120 a0 (a1+1) (fun y2=>(A81 y2 (fun y3=>K y3))))))∧((decide (y1=46))=false→K false))))
def jfj (A120:Ja) (A81:zc):jj sg:=tab [(120,con [none,none] (jd A120)),(81,con [none] (Zf A81))]
theorem zgw (A120:Ja) (A81:zc) (h120:FO ro 120 (jd A120)) (h81:FO ro 81 (Zf A81)) (o0:Nat→Prop):zB sy Tryz.prog GT (ovD ro) o0 ro (jfj A120 A81):=(Za (Zc h120) (Za (Zc h81) Zd)) o0
theorem jgw (A120:Ja) (A81:zc) (a0:Bt) (a1:Int) (k:W→Prop):fnT sy Tryz.prog GT (jfj A120 A81) noL Tryz.f124.ntmps (za Tryz.f124) [none] Tryz.f124.results.toList [.s a0,.i .i64 a1] k=zem A120 A81 a0 a1 (fun r0=>k (.b r0)):=by kernel_rfl
theorem zg6 (A120:Ja) (A81:zc) (h120:FO ro 120 (jd A120)) (h81:FO ro 81 (Zf A81)):FO ro 124 (ZaW (zem A120 A81)):=(zx (rc:=[none]) (f:=124) (fn:=Tryz.f124) (c:=za Tryz.f124) (nt:=Tryz.f124.ntmps) (res:=Tryz.f124.results.toList) (C:=jfj A120 A81) (L:=noL) (fun _ _=>rfl) Tryz.func124 (by kernel_rfl) rfl rfl (zgw A120 A81 h120 h81) (Ji (l:=[]) (by kernel_rfl) je)).weak (by
 intro us k h;unfold ZaW at h;split at h
 ·rw [jgw];exact h
 ·exact h.elim)
abbrev JbS:=Bt→Int→(Bool→Prop)→Prop
def Jbx (A:JbS) (us:List W) (k:W→Prop):Prop:=match us with
 | [.s a0,.i .i64 a1]=>A a0 a1 (fun r0=>k (.b r0))
 | _=>False
theorem ZeR {A A2:JbS} (h:FO ro 99 (Jbx A)) (hA:∀a0 a1 K,A2 a0 a1 K→A a0 a1 K):FO ro 99 (Jbx A2):=h.weak (by
 intro us k h;unfold Jbx at h ⊢;split at h
 ·exact hA _ _ _ h
 ·exact h.elim)
def jem (A120:Ja) (A123:Zw) (A81:zc) (A124:ZaP) (a0:Bt) (a1:Int) (K:Bool→Prop):Prop:=
 (A120 a0 a1 (fun y1=>(A123 y1 (fun y2=>((y2=true→(I64 (a1+1)∧(A120 a0 (a1+1) (fun y3=>(A81 y3 (fun y4=>((y4=false→(A124 a0 (a1+1) (fun y5=>K y5)))∧(y4=true→K true))))))))∧(y2=false→(A120 a0 a1 (fun y6=>(A81 y6 (fun y7=>((y7=false→(A124 a0 a1 (fun y8=>K y8)))∧(y7=true→K true))))))))))))
def Zfj (A120:Ja) (A123:Zw) (A81:zc) (A124:ZaP):jj sg:=tab [(120,con [none,none] (jd A120)),(123,con [none] (JH A123)),(81,con [none] (Zf A81)),(124,con [none,none] (ZaW A124))]
theorem Zgw (A120:Ja) (A123:Zw) (A81:zc) (A124:ZaP) (h120:FO ro 120 (jd A120)) (h123:FO ro 123 (JH A123)) (h81:FO ro 81 (Zf A81)) (h124:FO ro 124 (ZaW A124)) (o0:Nat→Prop):zB sy Tryz.prog GT (ovD ro) o0 ro (Zfj A120 A123 A81 A124):=(Za (Zc h120) (Za (Zc h123) (Za (Zc h81) (Za (Zc h124) Zd)))) o0
theorem Jgw (A120:Ja) (A123:Zw) (A81:zc) (A124:ZaP) (a0:Bt) (a1:Int) (k:W→Prop):fnT sy Tryz.prog GT (Zfj A120 A123 A81 A124) noL Tryz.f99.ntmps (za Tryz.f99) [none] Tryz.f99.results.toList [.s a0,.i .i64 a1] k=jem A120 A123 A81 A124 a0 a1 (fun r0=>k (.b r0)):=by kernel_rfl
theorem jg6 (A120:Ja) (A123:Zw) (A81:zc) (A124:ZaP) (h120:FO ro 120 (jd A120)) (h123:FO ro 123 (JH A123)) (h81:FO ro 81 (Zf A81)) (h124:FO ro 124 (ZaW A124)):FO ro 99 (Jbx (jem A120 A123 A81 A124)):=(zx (rc:=[none]) (f:=99) (fn:=Tryz.f99) (c:=za Tryz.f99) (nt:=Tryz.f99.ntmps) (res:=Tryz.f99.results.toList) (C:=Zfj A120 A123 A81 A124) (L:=noL) (fun _ _=>rfl) Tryz.func99 (by kernel_rfl) rfl rfl (Zgw A120 A123 A81 A124 h120 h123 h81 h124) (Ji (l:=[]) (by kernel_rfl) je)).weak (by
 intro us k h;unfold Jbx at h;split at h
 ·rw [Jgw];exact h
 ·exact h.elim)
abbrev jA:=Int→(Bool→Prop)→Prop
def Jv (A:jA) (us:List W) (k:W→Prop):Prop:=match us with
 | [.i .u8 a0]=>A a0 (fun r0=>k (.b r0))
 | _=>False
theorem zby {A A2:jA} (h:FO ro 140 (Jv A)) (hA:∀a0 K,A2 a0 K→A a0 K):FO ro 140 (Jv A2):=h.weak (by
 intro us k h;unfold Jv at h ⊢;split at h
 ·exact hA _ _ h
 ·exact h.elim)
def Zaj (a0:Int) (K:Bool→Prop):Prop:=
 (((decide (a0=101))=false→K (decide (a0=69)))∧((decide (a0=101))=true→K true))
def zaH:jj sg:=tab []
theorem zce (o0:Nat→Prop):zB sy Tryz.prog GT (ovD ro) o0 ro (zaH):=Zd o0
theorem jce (a0:Int) (k:W→Prop):fnT sy Tryz.prog GT (zaH) noL Tryz.f140.ntmps (za Tryz.f140) [none] Tryz.f140.results.toList [.i .u8 a0] k=Zaj a0 (fun r0=>k (.b r0)):=by kernel_rfl
theorem zco:FO ro 140 (Jv (Zaj)):=(zx (rc:=[none]) (f:=140) (fn:=Tryz.f140) (c:=za Tryz.f140) (nt:=Tryz.f140.ntmps) (res:=Tryz.f140.results.toList) (C:=zaH) (L:=noL) (fun _ _=>rfl) Tryz.func140 (by kernel_rfl) rfl rfl (zce) (Ji (l:=[]) (by kernel_rfl) je)).weak (by
 intro us k h;unfold Jv at h;split at h
 ·rw [jce];exact h
 ·exact h.elim)
abbrev JM:=Bt→Int→(Bool→Prop)→Prop
def JF (A:JM) (us:List W) (k:W→Prop):Prop:=match us with
 | [.s a0,.i .i64 a1]=>A a0 a1 (fun r0=>k (.b r0))
 | _=>False
theorem Zce {A A2:JM} (h:FO ro 141 (JF A)) (hA:∀a0 a1 K,A2 a0 a1 K→A a0 a1 K):FO ro 141 (JF A2):=h.weak (by
 intro us k h;unfold JF at h ⊢;split at h
 ·exact hA _ _ _ h
 ·exact h.elim)
def jaH (A120:Ja) (A123:Zw) (A81:zc) (a0:Bt) (a1:Int) (K:Bool→Prop):Prop:=
 (A120 a0 a1 (fun y1=>(A123 y1 (fun y2=>((y2=true→(I64 (a1+1)∧(A120 a0 (a1+1) (fun y3=>(A81 y3 (fun y4=>K y4))))))∧(y2=false→(A120 a0 a1 (fun y5=>(A81 y5 (fun y6=>K y6))))))))))
def Za5 (A120:Ja) (A123:Zw) (A81:zc):jj sg:=tab [(120,con [none,none] (jd A120)),(123,con [none] (JH A123)),(81,con [none] (Zf A81))]
theorem JcP (A120:Ja) (A123:Zw) (A81:zc) (h120:FO ro 120 (jd A120)) (h123:FO ro 123 (JH A123)) (h81:FO ro 81 (Zf A81)) (o0:Nat→Prop):zB sy Tryz.prog GT (ovD ro) o0 ro (Za5 A120 A123 A81):=(Za (Zc h120) (Za (Zc h123) (Za (Zc h81) Zd))) o0
theorem zcQ (A120:Ja) (A123:Zw) (A81:zc) (a0:Bt) (a1:Int) (k:W→Prop):fnT sy Tryz.prog GT (Za5 A120 A123 A81) noL Tryz.f141.ntmps (za Tryz.f141) [none] Tryz.f141.results.toList [.s a0,.i .i64 a1] k=jaH A120 A123 A81 a0 a1 (fun r0=>k (.b r0)):=by kernel_rfl
theorem zdd (A120:Ja) (A123:Zw) (A81:zc) (h120:FO ro 120 (jd A120)) (h123:FO ro 123 (JH A123)) (h81:FO ro 81 (Zf A81)):FO ro 141 (JF (jaH A120 A123 A81)):=(zx (rc:=[none]) (f:=141) (fn:=Tryz.f141) (c:=za Tryz.f141) (nt:=Tryz.f141.ntmps) (res:=Tryz.f141.results.toList) (C:=Za5 A120 A123 A81) (L:=noL) (fun _ _=>rfl) Tryz.func141 (by kernel_rfl) rfl rfl (JcP A120 A123 A81 h120 h123 h81) (Ji (l:=[]) (by kernel_rfl) je)).weak (by
 intro us k h;unfold JF at h;split at h
 ·rw [zcQ];exact h
 ·exact h.elim)
abbrev zbT:=Bt→(Int→Prop)→Prop
def jby (A:zbT) (us:List W) (k:W→Prop):Prop:=match us with
 | [.s a0]=>A a0 (fun r0=>k (.i .i64 r0))
 | _=>False
theorem JeR {A A2:zbT} (h:FO ro 142 (jby A)) (hA:∀a0 K,A2 a0 K→A a0 K):FO ro 142 (jby A2):=h.weak (by
 intro us k h;unfold jby at h ⊢;split at h
 ·exact hA _ _ h
 ·exact h.elim)
def Zb8:Nat→Bt→Int→Int→Int→(Int→Prop)→Prop
 | 0,_,_,_,_,_=>False
 | n+1,x0,x3,x6,x7,Ke=>(((decide (x7<x6))=true→(I64 ((10:Int)*x3)∧((0≤x7∧x7<(x0.length:Int))∧(I64 (IntKind.u8.wrap (((x0.getD x7.toNat 0).toNat:Int)-(48:Int)))∧(I64 (((10:Int)*x3)+(IntKind.u8.wrap (((x0.getD x7.toNat 0).toNat:Int)-(48:Int))))∧(I64 (x7+1)∧Zb8 n x0 (if (8000:Int)<(((10:Int)*x3)+(IntKind.u8.wrap (((x0.getD x7.toNat 0).toNat:Int)-(48:Int)))) then (8000:Int) else (((10:Int)*x3)+(IntKind.u8.wrap (((x0.getD x7.toNat 0).toNat:Int)-(48:Int))))) x6 (x7+1) Ke))))))∧((decide (x7<x6))=false→Ke x3))
def Jfj (a0:Bt) (K:Int→Prop):Prop:=
 (∃m,Zb8 m a0 (0:Int) (a0.length:Int) (0:Int) (fun y1=>K y1))
def Zem:jj sg:=tab []
theorem zeS (o0:Nat→Prop):zB sy Tryz.prog GT (ovD ro) o0 ro (Zem):=Zd o0
abbrev jcQ:Type:=((Bt)×Int×Int×Int×Unit)
abbrev Yb_k_wNu_3:Type:=Unit
def ls_k_wNu_3:LS sy jcQ Yb_k_wNu_3:=⟨[],Jc 0 (jl sy) (Jc 3 (Je sy .i64) (Jc 6 (Je sy .i64) (Jc 7 (Je sy .i64) (JD sy)))),zE sy,0,[]⟩
def le_k_wNu_3:LS sy (Int×Unit) Unit:=⟨[],Jc 3 (Je sy .i64) (JD sy),zE sy,0,[]⟩
def ZcQ:LS sy Unit Unit:=⟨[],JD sy,zE sy,0,[]⟩
def Jb8 (n:Nat) (x:jcQ×Yb_k_wNu_3) (K:Ex→Z sg→Prop):Prop:=Zb8 n x.1.1 x.1.2.1 x.1.2.2.1 x.1.2.2.2.1 (fun y0=>K (.exit 0) (le_k_wNu_3.put ((y0,()),())))
def zgx (z:Z sg) (K:Ex→Z sg→Prop):Prop:=ls_k_wNu_3.get z (fun x=>∃n,Jb8 n x K)
def JcQ:jV sg:=Zcn [(3,zgx)]
theorem jf1 (n:Nat) (x:jcQ×Yb_k_wNu_3) (K:Ex→Z sg→Prop):Js (ls_k_wNu_3.put x) (fun z=>sC sy Tryz.prog GT (Zem) (JcQ) Tryz.f142.ntmps (zb (za Tryz.f142) 0) z (rnd ls_k_wNu_3 (czT 0 le_k_wNu_3 ZcQ) (fun x=>Jb8 n x K) K))=Jb8 (n+1) x K:=by kernel_rfl
theorem Zf1 (z:Z sg) (K:Ex→Z sg→Prop):(JcQ) (zb (za Tryz.f142) 0) z K=ls_k_wNu_3.get z (fun x=>∃n,Jb8 n x K):=by kernel_rfl
theorem Jf1:∀(o0:Nat→Prop) (B:Bs sg),B.E.length≤0→∀z K,(JcQ) (zb (za Tryz.f142) 0) z K→Sx.Sem sy Tryz.prog GT (ovD ro) o0 ro Tryz.f142.ntmps B (.loop (zb (za Tryz.f142) 0)) z K:=
 ZE (zeS) (Ji (l:=[]) (by kernel_rfl) je) ls_k_wNu_3 (by decide) (czT 0 le_k_wNu_3 ZcQ) (fun _ _ hB=>JU 0 le_k_wNu_3 ZcQ (Nat.le_trans hB (by decide)) (Nat.le_trans hB (by decide))) (fun _ _ h=>h) (jf1) (Zf1)
theorem Zg6:Jb7 sy Tryz.prog GT (ovD ro) ro (JcQ) 0 Tryz.f142.ntmps (za Tryz.f142):=Ji (l:=[(zb (za Tryz.f142) 0)]) (by kernel_rfl) (jE (Jf1) je)
theorem jgx (a0:Bt) (k:W→Prop):fnT sy Tryz.prog GT (Zem) (JcQ) Tryz.f142.ntmps (za Tryz.f142) [none] Tryz.f142.results.toList [.s a0] k=Jfj a0 (fun r0=>k (.i .i64 r0)):=by kernel_rfl
theorem Jg6:FO ro 142 (jby (Jfj)):=(zx (rc:=[none]) (f:=142) (fn:=Tryz.f142) (c:=za Tryz.f142) (nt:=Tryz.f142.ntmps) (res:=Tryz.f142.results.toList) (C:=Zem) (L:=(JcQ)) (fun _ _=>rfl) Tryz.func142 (by kernel_rfl) rfl rfl (zeS) (Zg6)).weak (by
 intro us k h;unfold jby at h;split at h
 ·rw [jgx];exact h
 ·exact h.elim)
abbrev jbc:=Bt→Int→(Bt→Prop)→Prop
def JaZ (A:jbc) (us:List W) (k:W→Prop):Prop:=match us with
 | [.s a0,.i .u8 a1]=>A a0 a1 (fun r0=>k (.s r0))
 | _=>False
theorem Jem {A A2:jbc} (h:FO ro 164 (JaZ A)) (hA:∀a0 a1 K,A2 a0 a1 K→A a0 a1 K):FO ro 164 (JaZ A2):=h.weak (by
 intro us k h;unfold JaZ at h ⊢;split at h
 ·exact hA _ _ _ h
 ·exact h.elim)
def Zby:Nat→Bt→Int→(Bt→Prop)→Prop
 | 0,_,_,_=>False
 | n+1,x0,x1,Ke=>(((decide ((0:Int)<(x0.length:Int)))=true→((0≤(0:Int)∧(0:Int)<(x0.length:Int))∧(((decide (((x0.getD 0 0).toNat:Int)=x1))=true→((0≤(1:Int)∧(1:Int)≤(x0.length:Int))∧Zby n (x0.drop 1) x1 Ke))∧((decide (((x0.getD 0 0).toNat:Int)=x1))=false→Ke x0))))∧((decide ((0:Int)<(x0.length:Int)))=false→Ke x0))
def zen (a0:Bt) (a1:Int) (K:Bt→Prop):Prop:=
 (∃m,Zby m a0 a1 (fun y1=>K y1))
def zdn:jj sg:=tab []
theorem Jd8 (o0:Nat→Prop):zB sy Tryz.prog GT (ovD ro) o0 ro (zdn):=Zd o0
abbrev jco:Type:=((Bt)×Int×Unit)
abbrev Yb_gs_tLB_1:Type:=Unit
def ls_gs_tLB_1:LS sy jco Yb_gs_tLB_1:=⟨[],Jc 0 (jl sy) (Jc 1 (Je sy .u8) (JD sy)),zE sy,0,[]⟩
def le_gs_tLB_1:LS sy ((Bt)×Unit) Unit:=⟨[],Jc 0 (jl sy) (JD sy),zE sy,0,[]⟩
def Zco:LS sy Unit Unit:=⟨[],JD sy,zE sy,0,[]⟩
def Jby (n:Nat) (x:jco×Yb_gs_tLB_1) (K:Ex→Z sg→Prop):Prop:=Zby n x.1.1 x.1.2.1 (fun y0=>K (.exit 0) (le_gs_tLB_1.put ((y0,()),())))
def zf2 (z:Z sg) (K:Ex→Z sg→Prop):Prop:=ls_gs_tLB_1.get z (fun x=>∃n,Jby n x K)
def zb9:jV sg:=Zcn [(1,zf2)]
theorem zfk (n:Nat) (x:jco×Yb_gs_tLB_1) (K:Ex→Z sg→Prop):Js (ls_gs_tLB_1.put x) (fun z=>sC sy Tryz.prog GT (zdn) (zb9) Tryz.f164.ntmps (zb (za Tryz.f164) 0) z (rnd ls_gs_tLB_1 (czT 0 le_gs_tLB_1 Zco) (fun x=>Jby n x K) K))=Jby (n+1) x K:=by kernel_rfl
theorem jfk (z:Z sg) (K:Ex→Z sg→Prop):(zb9) (zb (za Tryz.f164) 0) z K=ls_gs_tLB_1.get z (fun x=>∃n,Jby n x K):=by kernel_rfl
theorem Zfk:∀(o0:Nat→Prop) (B:Bs sg),B.E.length≤0→∀z K,(zb9) (zb (za Tryz.f164) 0) z K→Sx.Sem sy Tryz.prog GT (ovD ro) o0 ro Tryz.f164.ntmps B (.loop (zb (za Tryz.f164) 0)) z K:=
 ZE (Jd8) (Ji (l:=[]) (by kernel_rfl) je) ls_gs_tLB_1 (by decide) (czT 0 le_gs_tLB_1 Zco) (fun _ _ hB=>JU 0 le_gs_tLB_1 Zco (Nat.le_trans hB (by decide)) (Nat.le_trans hB (by decide))) (fun _ _ h=>h) (zfk) (jfk)
theorem Zgx:Jb7 sy Tryz.prog GT (ovD ro) ro (zb9) 0 Tryz.f164.ntmps (za Tryz.f164):=Ji (l:=[(zb (za Tryz.f164) 0)]) (by kernel_rfl) (jE (Zfk) je)
theorem jf2 (a0:Bt) (a1:Int) (k:W→Prop):fnT sy Tryz.prog GT (zdn) (zb9) Tryz.f164.ntmps (za Tryz.f164) [none] Tryz.f164.results.toList [.s a0,.i .u8 a1] k=zen a0 a1 (fun r0=>k (.s r0)):=by kernel_rfl
theorem Jgx:FO ro 164 (JaZ (zen)):=(zx (rc:=[none]) (f:=164) (fn:=Tryz.f164) (c:=za Tryz.f164) (nt:=Tryz.f164.ntmps) (res:=Tryz.f164.results.toList) (C:=zdn) (L:=(zb9)) (fun _ _=>rfl) Tryz.func164 (by kernel_rfl) rfl rfl (Jd8) (Zgx)).weak (by
 intro us k h;unfold JaZ at h;split at h
 ·rw [jf2];exact h
 ·exact h.elim)
abbrev jp:=Bt→Bt→(Bt→Prop)→Prop
def zG (A:jp) (us:List W) (k:W→Prop):Prop:=match us with
 | [.s a0,.s a1]=>A a0 a1 (fun r0=>k (.s r0))
 | _=>False
theorem ZcA {A A2:jp} (h:FO ro 158 (zG A)) (hA:∀a0 a1 K,A2 a0 a1 K→A a0 a1 K):FO ro 158 (zG A2):=h.weak (by
 intro us k h;unfold zG at h ⊢;split at h
 ·exact hA _ _ _ h
 ·exact h.elim)
def zbz (A164:jbc) (a0:Bt) (a1:Bt) (K:Bt→Prop):Prop:=
 (((a0==([]:Bt))=false→(((a1==([]:Bt))=true→K a0)∧((a1==([]:Bt))=false→(((decide ((a1.length:Int)=(1:Int)))=true→((0≤(0:Int)∧(0:Int)<(a1.length:Int))∧(((decide (((a1.getD 0 0).toNat:Int)<(128:Int)))=true→((0≤(0:Int)∧(0:Int)<(a1.length:Int))∧(A164 a0 ((a1.getD 0 0).toNat:Int) (fun y1=>K y1))))∧((decide (((a1.getD 0 0).toNat:Int)<(128:Int)))=false→False))))∧((decide ((a1.length:Int)=(1:Int)))=false→False)))))∧((a0==([]:Bt))=true→K a0))
def jbz (A164:jbc):jj sg:=tab [(164,con [none,none] (JaZ A164)),(165,con [] noT),(166,con [] noT),(167,con [] noT)]
theorem zdA (A164:jbc) (h164:FO ro 164 (JaZ A164)) (o0:Nat→Prop):zB sy Tryz.prog GT (ovD ro) o0 ro (jbz A164):=(Za (Zc h164) (Za (Zc (Zgv 165)) (Za (Zc (Zgv 166)) (Za (Zc (Zgv 167)) Zd)))) o0
theorem jdA (A164:jbc) (a0:Bt) (a1:Bt) (k:W→Prop):fnT sy Tryz.prog GT (jbz A164) noL Tryz.f158.ntmps (za Tryz.f158) [none] Tryz.f158.results.toList [.s a0,.s a1] k=zbz A164 a0 a1 (fun r0=>k (.s r0)):=by kernel_rfl
theorem ZdX (A164:jbc) (h164:FO ro 164 (JaZ A164)):FO ro 158 (zG (zbz A164)):=(zx (rc:=[none]) (f:=158) (fn:=Tryz.f158) (c:=za Tryz.f158) (nt:=Tryz.f158.ntmps) (res:=Tryz.f158.results.toList) (C:=jbz A164) (L:=noL) (fun _ _=>rfl) Tryz.func158 (by kernel_rfl) rfl rfl (zdA A164 h164) (Ji (l:=[]) (by kernel_rfl) je)).weak (by
 intro us k h;unfold zG at h;split at h
 ·rw [jdA];exact h
 ·exact h.elim)
abbrev jbT:=Bt→Int→(Int→Prop)→Prop
def Zbz (A:jbT) (us:List W) (k:W→Prop):Prop:=match us with
 | [.s a0,.i .i64 a1]=>A a0 a1 (fun r0=>k (.i .i64 r0))
 | _=>False
theorem jeS {A A2:jbT} (h:FO ro 143 (Zbz A)) (hA:∀a0 a1 K,A2 a0 a1 K→A a0 a1 K):FO ro 143 (Zbz A2):=h.weak (by
 intro us k h;unfold Zbz at h ⊢;split at h
 ·exact hA _ _ _ h
 ·exact h.elim)
def zbq (A158:jp):Nat→Bt→Int→Int→Int→(Int→Prop)→Prop
 | 0,_,_,_,_,_=>False
 | n+1,x5,x6,x25,x26,Ke=>(((decide (x26<x25))=true→(I64 (x6*10)∧(((decide (x26<(x5.length:Int)))=true→((0≤x26∧x26<(x5.length:Int))∧(I64 (IntKind.u8.wrap (((x5.getD x26.toNat 0).toNat:Int)-(48:Int)))∧(I64 ((x6*10)+(IntKind.u8.wrap (((x5.getD x26.toNat 0).toNat:Int)-(48:Int))))∧(I64 (x26+1)∧zbq A158 n x5 ((x6*10)+(IntKind.u8.wrap (((x5.getD x26.toNat 0).toNat:Int)-(48:Int)))) x25 (x26+1) Ke)))))∧((decide (x26<(x5.length:Int)))=false→(I64 (x26+1)∧zbq A158 n x5 (x6*10) x25 (x26+1) Ke)))))∧((decide (x26<x25))=false→Ke x6))
def Jfk (A158:jp) (a0:Bt) (a1:Int) (K:Int→Prop):Prop:=
 (A158 a0 ([48]:Bt) (fun y1=>(I64 ((a0.length:Int)-(y1.length:Int))∧(I64 (a1-((a0.length:Int)-(y1.length:Int)))∧(((y1==([]:Bt))=false→(((decide ((a1-((a0.length:Int)-(y1.length:Int)))≤0))=true→K (0:Int))∧((decide ((a1-((a0.length:Int)-(y1.length:Int)))≤0))=false→(((decide ((13:Int)<(a1-((a0.length:Int)-(y1.length:Int)))))=true→K (1000000000000:Int))∧((decide ((13:Int)<(a1-((a0.length:Int)-(y1.length:Int)))))=false→(∃m,zbq A158 m y1 (0:Int) (a1-((a0.length:Int)-(y1.length:Int))) (0:Int) (fun y2=>K (if (1000000000000:Int)<y2 then (1000000000000:Int) else y2))))))))∧((y1==([]:Bt))=true→K (0:Int)))))))
def jen (A158:jp):jj sg:=tab [(158,con [none,none] (zG A158))]
theorem ZeS (A158:jp) (h158:FO ro 158 (zG A158)) (o0:Nat→Prop):zB sy Tryz.prog GT (ovD ro) o0 ro (jen A158):=(Za (Zc h158) Zd) o0
abbrev zcR:Type:=((Bt)×Int×Int×Int×Unit)
abbrev Yb_k_cNu_9:Type:=Unit
def ls_k_cNu_9:LS sy zcR Yb_k_cNu_9:=⟨[],Jc 5 (jl sy) (Jc 6 (Je sy .i64) (Jc 25 (Je sy .i64) (Jc 26 (Je sy .i64) (JD sy)))),zE sy,0,[]⟩
def le_k_cNu_9:LS sy (Int×Unit) Unit:=⟨[],Jc 6 (Je sy .i64) (JD sy),zE sy,0,[]⟩
def jcR:LS sy Unit Unit:=⟨[],JD sy,zE sy,0,[]⟩
def jb9 (A158:jp) (n:Nat) (x:zcR×Yb_k_cNu_9) (K:Ex→Z sg→Prop):Prop:=zbq A158 n x.1.1 x.1.2.1 x.1.2.2.1 x.1.2.2.2.1 (fun y0=>K (.exit 0) (le_k_cNu_9.put ((y0,()),())))
def zgy (A158:jp) (z:Z sg) (K:Ex→Z sg→Prop):Prop:=ls_k_cNu_9.get z (fun x=>∃n,jb9 A158 n x K)
def ZcR (A158:jp):jV sg:=Zcn [(9,zgy A158)]
theorem Zf2 (A158:jp) (n:Nat) (x:zcR×Yb_k_cNu_9) (K:Ex→Z sg→Prop):Js (ls_k_cNu_9.put x) (fun z=>sC sy Tryz.prog GT (jen A158) (ZcR A158) Tryz.f143.ntmps (zb (za Tryz.f143) 0) z (rnd ls_k_cNu_9 (czT 0 le_k_cNu_9 jcR) (fun x=>jb9 A158 n x K) K))=jb9 A158 (n+1) x K:=by kernel_rfl
theorem Jf2 (A158:jp) (z:Z sg) (K:Ex→Z sg→Prop):(ZcR A158) (zb (za Tryz.f143) 0) z K=ls_k_cNu_9.get z (fun x=>∃n,jb9 A158 n x K):=by kernel_rfl
theorem zf3 (A158:jp) (h158:FO ro 158 (zG A158)):∀(o0:Nat→Prop) (B:Bs sg),B.E.length≤0→∀z K,(ZcR A158) (zb (za Tryz.f143) 0) z K→Sx.Sem sy Tryz.prog GT (ovD ro) o0 ro Tryz.f143.ntmps B (.loop (zb (za Tryz.f143) 0)) z K:=
 ZE (ZeS A158 h158) (Ji (l:=[]) (by kernel_rfl) je) ls_k_cNu_9 (by decide) (czT 0 le_k_cNu_9 jcR) (fun _ _ hB=>JU 0 le_k_cNu_9 jcR (Nat.le_trans hB (by decide)) (Nat.le_trans hB (by decide))) (fun _ _ h=>h) (Zf2 A158) (Jf2 A158)
theorem zg7 (A158:jp) (h158:FO ro 158 (zG A158)):Jb7 sy Tryz.prog GT (ovD ro) ro (ZcR A158) 0 Tryz.f143.ntmps (za Tryz.f143):=Ji (l:=[(zb (za Tryz.f143) 0)]) (by kernel_rfl) (jE (zf3 A158 h158) je)
theorem jgy (A158:jp) (a0:Bt) (a1:Int) (k:W→Prop):fnT sy Tryz.prog GT (jen A158) (ZcR A158) Tryz.f143.ntmps (za Tryz.f143) [none] Tryz.f143.results.toList [.s a0,.i .i64 a1] k=Jfk A158 a0 a1 (fun r0=>k (.i .i64 r0)):=by kernel_rfl
theorem jg7 (A158:jp) (h158:FO ro 158 (zG A158)):FO ro 143 (Zbz (Jfk A158)):=(zx (rc:=[none]) (f:=143) (fn:=Tryz.f143) (c:=za Tryz.f143) (nt:=Tryz.f143.ntmps) (res:=Tryz.f143.results.toList) (C:=jen A158) (L:=(ZcR A158)) (fun _ _=>rfl) Tryz.func143 (by kernel_rfl) rfl rfl (ZeS A158 h158) (zg7 A158 h158)).weak (by
 intro us k h;unfold Zbz at h;split at h
 ·rw [jgy];exact h
 ·exact h.elim)
def JeS (A120:Ja) (A123:Zw):jj sg:=tab [(120,con [none,none] (jd A120)),(123,con [none] (JH A123))]
theorem zfl (A120:Ja) (A123:Zw) (h120:FO ro 120 (jd A120)) (h123:FO ro 123 (JH A123)) (o0:Nat→Prop):zB sy Tryz.prog GT (ovD ro) o0 ro (JeS A120 A123):=(Za (Zc h120) (Za (Zc h123) Zd)) o0
def Zu (A120:Ja) (A81:zc):Nat→Int→Bt→Int→(Int→Bt→Int→Prop)→Prop
 | 0,_,_,_,_=>False
 | n+1,x3,c0_0,c1_0,Ke=>(A120 c0_0 c1_0 (fun y1=>(A81 y1 (fun y2=>((y2=true→(I64 (c1_0+1)∧Zu A120 A81 n x3 c0_0 (c1_0+1) Ke))∧(y2=false→Ke x3 c0_0 c1_0))))))
def ZdA (A120:Ja) (A81:zc):jj sg:=tab [(120,con [none,none] (jd A120)),(81,con [none] (Zf A81))]
theorem JdA (A120:Ja) (A81:zc) (h120:FO ro 120 (jd A120)) (h81:FO ro 81 (Zf A81)) (o0:Nat→Prop):zB sy Tryz.prog GT (ovD ro) o0 ro (ZdA A120 A81):=(Za (Zc h120) (Za (Zc h81) Zd)) o0
abbrev ZbT:Type:=(Unit×Unit×Int×Unit)
abbrev Yb_k_rNu_2_2:Type:=(((Bt)×Unit)×(Int×Unit)×Unit)
def ls_k_rNu_2_2:LS sy ZbT Yb_k_rNu_2_2:=⟨[],Jc 0 (jJ sy (.p 1 0)) (Jc 1 (jJ sy (.p 0 0)) (Jc 3 (Je sy .i64) (JD sy))),Jb 0 (ja (jl sy) (jq sy)) (Jb 1 (ja (Je sy .i64) (jq sy)) (zE sy)),2,[]⟩
def le_k_rNu_2_2:LS sy (Unit×Unit×Int×Unit) (((Bt)×Unit)×(Int×Unit)×Unit):=⟨[],Jc 0 (jJ sy (.p 1 0)) (Jc 1 (jJ sy (.p 0 0)) (Jc 3 (Je sy .i64) (JD sy))),Jb 0 (ja (jl sy) (jq sy)) (Jb 1 (ja (Je sy .i64) (jq sy)) (zE sy)),2,[]⟩
def JbT:LS sy Unit Unit:=⟨[],JD sy,zE sy,2,[]⟩
def Zbc (A120:Ja) (A81:zc) (n:Nat) (x:ZbT×Yb_k_rNu_2_2) (K:Ex→Z sg→Prop):Prop:=Zu A120 A81 n x.1.2.2.1 x.2.1.1 x.2.2.1.1 (fun y0 y1 y2=>K (.exit 0) (le_k_rNu_2_2.put (((),(),y0,()),((y1,()),(y2,()),()))))
def jfl (A120:Ja) (A81:zc) (z:Z sg) (K:Ex→Z sg→Prop):Prop:=ls_k_rNu_2_2.get z (fun x=>∃n,Zbc A120 A81 n x K)
def zbU (A120:Ja) (A81:zc):jV sg:=Zcn [(2,jfl A120 A81)]
theorem zeT (A120:Ja) (A81:zc) (n:Nat) (x:ZbT×Yb_k_rNu_2_2) (K:Ex→Z sg→Prop):Js (ls_k_rNu_2_2.put x) (fun z=>sC sy Tryz.prog GT (ZdA A120 A81) (zbU A120 A81) Tryz.f139.ntmps (zb (za Tryz.f139) 0) z (rnd ls_k_rNu_2_2 (czT 0 le_k_rNu_2_2 JbT) (fun x=>Zbc A120 A81 n x K) K))=Zbc A120 A81 (n+1) x K:=by kernel_rfl
theorem jeT (A120:Ja) (A81:zc) (z:Z sg) (K:Ex→Z sg→Prop):(zbU A120 A81) (zb (za Tryz.f139) 0) z K=ls_k_rNu_2_2.get z (fun x=>∃n,Zbc A120 A81 n x K):=by kernel_rfl
theorem ZeT (A120:Ja) (A81:zc) (h120:FO ro 120 (jd A120)) (h81:FO ro 81 (Zf A81)):∀(o0:Nat→Prop) (B:Bs sg),B.E.length≤2→∀z K,(zbU A120 A81) (zb (za Tryz.f139) 0) z K→Sx.Sem sy Tryz.prog GT (ovD ro) o0 ro Tryz.f139.ntmps B (.loop (zb (za Tryz.f139) 0)) z K:=
 ZE (JdA A120 A81 h120 h81) (Ji (l:=[]) (by kernel_rfl) je) ls_k_rNu_2_2 (by decide) (czT 0 le_k_rNu_2_2 JbT) (fun _ _ hB=>JU 0 le_k_rNu_2_2 JbT (Nat.le_trans hB (by decide)) (Nat.le_trans hB (by decide))) (fun _ _ h=>h) (zeT A120 A81) (jeT A120 A81)
theorem jf3 (A120:Ja) (A81:zc) (h120:FO ro 120 (jd A120)) (h81:FO ro 81 (Zf A81)):Jb7 sy Tryz.prog GT (ovD ro) ro (zbU A120 A81) 2 Tryz.f139.ntmps (za Tryz.f139):=Ji (l:=[(zb (za Tryz.f139) 0)]) (by kernel_rfl) (jE (ZeT A120 A81 h120 h81) je)
abbrev jbU:=Bt→Int→(Int→Bool→Int→Prop)→Prop
def Jbz (A:jbU) (us:List W) (k:W→Prop):Prop:=match us with
 | [.s a0,.i .i64 a1]=>A a0 a1 (fun r0 r1 r2=>k (.t [.i .i64 r0,.b r1,.i .i64 r2]))
 | _=>False
theorem JeT {A A2:jbU} (h:FO ro 125 (Jbz A)) (hA:∀a0 a1 K,A2 a0 a1 K→A a0 a1 K):FO ro 125 (Jbz A2):=h.weak (by
 intro us k h;unfold Jbz at h ⊢;split at h
 ·exact hA _ _ _ h
 ·exact h.elim)
def Zfl (A124:ZaP) (A120:Ja) (A140:jA) (A141:JM) (A142:zbT) (A143:jbT) (A123:Zw) (A81:zc) (a0:Bt) (a1:Int) (K:Int→Bool→Int→Prop):Prop:=
 (A120 a0 a1 (fun y1=>(A120 a0 a1 (fun y2=>(A123 y2 (fun y3=>((y3=true→(I64 (a1+1)∧(∃m,Zu A120 A81 m (a1+1) a0 (a1+1) (fun y4 y5 y6=>((0≤y4∧y4≤y6∧y6≤(y5.length:Int))∧(A124 y5 y6 (fun y7=>((y7=true→(I64 (y6+1)∧(∃m,Zu A120 A81 m (y6+1) y5 (y6+1) (fun y8 y9 y10=>((0≤y8∧y8≤y10∧y10≤(y9.length:Int))∧(A120 y9 y10 (fun y11=>(A140 y11 (fun y12=>((y12=true→(I64 (y10+1)∧(A141 y9 (y10+1) (fun y13=>((y13=true→(I64 (y10+1)∧(A120 y9 (y10+1) (fun y14=>(A120 y9 (y10+1) (fun y15=>(A123 y15 (fun y16=>((y16=true→(I64 ((y10+1)+1)∧(∃m,Zu A120 A81 m ((y10+1)+1) y9 ((y10+1)+1) (fun y17 y18 y19=>((0≤y17∧y17≤y19∧y19≤(y18.length:Int))∧(A142 ((y18.drop y17.toNat).take (y19.toNat-y17.toNat)) (fun y20=>(((decide (y14=45))=true→(I64 (0-y20)∧(((y5.drop y4.toNat).take (y6.toNat-y4.toNat)).length+((y9.drop y8.toNat).take (y10.toNat-y8.toNat)).length≤1099511627776∧(I64 ((((y5.drop y4.toNat).take (y6.toNat-y4.toNat)).length:Int)+(0-y20))∧(I64 (((((y5.drop y4.toNat).take (y6.toNat-y4.toNat)).length:Int)+(0-y20))+3)∧(A143 (((y5.drop y4.toNat).take (y6.toNat-y4.toNat))++((y9.drop y8.toNat).take (y10.toNat-y8.toNat))) (((((y5.drop y4.toNat).take (y6.toNat-y4.toNat)).length:Int)+(0-y20))+3) (fun y21=>(((decide (y1=45))=true→(I64 (0-y21)∧K (0-y21) false y19))∧((decide (y1=45))=false→K y21 false y19)))))))))∧((decide (y14=45))=false→(((y5.drop y4.toNat).take (y6.toNat-y4.toNat)).length+((y9.drop y8.toNat).take (y10.toNat-y8.toNat)).length≤1099511627776∧(I64 ((((y5.drop y4.toNat).take (y6.toNat-y4.toNat)).length:Int)+y20)∧(I64 (((((y5.drop y4.toNat).take (y6.toNat-y4.toNat)).length:Int)+y20)+(3:Int))∧(A143 (((y5.drop y4.toNat).take (y6.toNat-y4.toNat))++((y9.drop y8.toNat).take (y10.toNat-y8.toNat))) (((((y5.drop y4.toNat).take (y6.toNat-y4.toNat)).length:Int)+y20)+(3:Int)) (fun y22=>(((decide (y1=45))=true→(I64 (0-y22)∧K (0-y22) false y19))∧((decide (y1=45))=false→K y22 false y19))))))))))))))))∧(y16=false→(∃m,Zu A120 A81 m (y10+1) y9 (y10+1) (fun y23 y24 y25=>((0≤y23∧y23≤y25∧y25≤(y24.length:Int))∧(A142 ((y24.drop y23.toNat).take (y25.toNat-y23.toNat)) (fun y26=>(((decide (y14=45))=true→(I64 (0-y26)∧(((y5.drop y4.toNat).take (y6.toNat-y4.toNat)).length+((y9.drop y8.toNat).take (y10.toNat-y8.toNat)).length≤1099511627776∧(I64 ((((y5.drop y4.toNat).take (y6.toNat-y4.toNat)).length:Int)+(0-y26))∧(I64 (((((y5.drop y4.toNat).take (y6.toNat-y4.toNat)).length:Int)+(0-y26))+3)∧(A143 (((y5.drop y4.toNat).take (y6.toNat-y4.toNat))++((y9.drop y8.toNat).take (y10.toNat-y8.toNat))) (((((y5.drop y4.toNat).take (y6.toNat-y4.toNat)).length:Int)+(0-y26))+3) (fun y27=>(((decide (y1=45))=true→(I64 (0-y27)∧K (0-y27) false y25))∧((decide (y1=45))=false→K y27 false y25)))))))))∧((decide (y14=45))=false→(((y5.drop y4.toNat).take (y6.toNat-y4.toNat)).length+((y9.drop y8.toNat).take (y10.toNat-y8.toNat)).length≤1099511627776∧(I64 ((((y5.drop y4.toNat).take (y6.toNat-y4.toNat)).length:Int)+y26)∧(I64 (((((y5.drop y4.toNat).take (y6.toNat-y4.toNat)).length:Int)+y26)+(3:Int))∧(A143 (((y5.drop y4.toNat).take (y6.toNat-y4.toNat))++((y9.drop y8.toNat).take (y10.toNat-y8.toNat))) (((((y5.drop y4.toNat).take (y6.toNat-y4.toNat)).length:Int)+y26)+(3:Int)) (fun y28=>(((decide (y1=45))=true→(I64 (0-y28)∧K (0-y28) false y25))∧((decide (y1=45))=false→K y28 false y25))))))))))))))))))))))))∧(y13=false→(((y5.drop y4.toNat).take (y6.toNat-y4.toNat)).length+((y9.drop y8.toNat).take (y10.toNat-y8.toNat)).length≤1099511627776∧(I64 ((((y5.drop y4.toNat).take (y6.toNat-y4.toNat)).length:Int)+(0:Int))∧(I64 (((((y5.drop y4.toNat).take (y6.toNat-y4.toNat)).length:Int)+(0:Int))+3)∧(A143 (((y5.drop y4.toNat).take (y6.toNat-y4.toNat))++((y9.drop y8.toNat).take (y10.toNat-y8.toNat))) (((((y5.drop y4.toNat).take (y6.toNat-y4.toNat)).length:Int)+(0:Int))+3) (fun y29=>(((decide (y1=45))=true→(I64 (0-y29)∧K (0-y29) false y10))∧((decide (y1=45))=false→K y29 false y10)))))))))))))∧(y12=false→(((y5.drop y4.toNat).take (y6.toNat-y4.toNat)).length+((y9.drop y8.toNat).take (y10.toNat-y8.toNat)).length≤1099511627776∧(I64 ((((y5.drop y4.toNat).take (y6.toNat-y4.toNat)).length:Int)+(0:Int))∧(I64 (((((y5.drop y4.toNat).take (y6.toNat-y4.toNat)).length:Int)+(0:Int))+3)∧(A143 (((y5.drop y4.toNat).take (y6.toNat-y4.toNat))++((y9.drop y8.toNat).take (y10.toNat-y8.toNat))) (((((y5.drop y4.toNat).take (y6.toNat-y4.toNat)).length:Int)+(0:Int))+3) (fun y30=>(((decide (y1=45))=true→(I64 (0-y30)∧K (0-y30) false y10))∧((decide (y1=45))=false→K y30 false y10))))))))))))))))))∧(y7=false→(A120 y5 y6 (fun y31=>(A140 y31 (fun y32=>((y32=true→(I64 (y6+1)∧(A141 y5 (y6+1) (fun y33=>((y33=true→(I64 (y6+1)∧(A120 y5 (y6+1) (fun y34=>(A120 y5 (y6+1) (fun y35=>(A123 y35 (fun y36=>((y36=true→(I64 ((y6+1)+1)∧(∃m,Zu A120 A81 m ((y6+1)+1) y5 ((y6+1)+1) (fun y37 y38 y39=>((0≤y37∧y37≤y39∧y39≤(y38.length:Int))∧(A142 ((y38.drop y37.toNat).take (y39.toNat-y37.toNat)) (fun y40=>(((decide (y34=45))=true→(I64 (0-y40)∧(((y5.drop y4.toNat).take (y6.toNat-y4.toNat)).length+([]:Bt).length≤1099511627776∧(I64 ((((y5.drop y4.toNat).take (y6.toNat-y4.toNat)).length:Int)+(0-y40))∧(I64 (((((y5.drop y4.toNat).take (y6.toNat-y4.toNat)).length:Int)+(0-y40))+3)∧(A143 (((y5.drop y4.toNat).take (y6.toNat-y4.toNat))++([]:Bt)) (((((y5.drop y4.toNat).take (y6.toNat-y4.toNat)).length:Int)+(0-y40))+3) (fun y41=>(((decide (y1=45))=true→(I64 (0-y41)∧K (0-y41) false y39))∧((decide (y1=45))=false→K y41 false y39)))))))))∧((decide (y34=45))=false→(((y5.drop y4.toNat).take (y6.toNat-y4.toNat)).length+([]:Bt).length≤1099511627776∧(I64 ((((y5.drop y4.toNat).take (y6.toNat-y4.toNat)).length:Int)+y40)∧(I64 (((((y5.drop y4.toNat).take (y6.toNat-y4.toNat)).length:Int)+y40)+(3:Int))∧(A143 (((y5.drop y4.toNat).take (y6.toNat-y4.toNat))++([]:Bt)) (((((y5.drop y4.toNat).take (y6.toNat-y4.toNat)).length:Int)+y40)+(3:Int)) (fun y42=>(((decide (y1=45))=true→(I64 (0-y42)∧K (0-y42) false y39))∧((decide (y1=45))=false→K y42 false y39))))))))))))))))∧(y36=false→(∃m,Zu A120 A81 m (y6+1) y5 (y6+1) (fun y43 y44 y45=>((0≤y43∧y43≤y45∧y45≤(y44.length:Int))∧(A142 ((y44.drop y43.toNat).take (y45.toNat-y43.toNat)) (fun y46=>(((decide (y34=45))=true→(I64 (0-y46)∧(((y5.drop y4.toNat).take (y6.toNat-y4.toNat)).length+([]:Bt).length≤1099511627776∧(I64 ((((y5.drop y4.toNat).take (y6.toNat-y4.toNat)).length:Int)+(0-y46))∧(I64 (((((y5.drop y4.toNat).take (y6.toNat-y4.toNat)).length:Int)+(0-y46))+3)∧(A143 (((y5.drop y4.toNat).take (y6.toNat-y4.toNat))++([]:Bt)) (((((y5.drop y4.toNat).take (y6.toNat-y4.toNat)).length:Int)+(0-y46))+3) (fun y47=>(((decide (y1=45))=true→(I64 (0-y47)∧K (0-y47) false y45))∧((decide (y1=45))=false→K y47 false y45)))))))))∧((decide (y34=45))=false→(((y5.drop y4.toNat).take (y6.toNat-y4.toNat)).length+([]:Bt).length≤1099511627776∧(I64 ((((y5.drop y4.toNat).take (y6.toNat-y4.toNat)).length:Int)+y46)∧(I64 (((((y5.drop y4.toNat).take (y6.toNat-y4.toNat)).length:Int)+y46)+(3:Int))∧(A143 (((y5.drop y4.toNat).take (y6.toNat-y4.toNat))++([]:Bt)) (((((y5.drop y4.toNat).take (y6.toNat-y4.toNat)).length:Int)+y46)+(3:Int)) (fun y48=>(((decide (y1=45))=true→(I64 (0-y48)∧K (0-y48) false y45))∧((decide (y1=45))=false→K y48 false y45))))))))))))))))))))))))∧(y33=false→(((y5.drop y4.toNat).take (y6.toNat-y4.toNat)).length+([]:Bt).length≤1099511627776∧(I64 ((((y5.drop y4.toNat).take (y6.toNat-y4.toNat)).length:Int)+(0:Int))∧(I64 (((((y5.drop y4.toNat).take (y6.toNat-y4.toNat)).length:Int)+(0:Int))+3)∧(A143 (((y5.drop y4.toNat).take (y6.toNat-y4.toNat))++([]:Bt)) (((((y5.drop y4.toNat).take (y6.toNat-y4.toNat)).length:Int)+(0:Int))+3) (fun y49=>(((decide (y1=45))=true→(I64 (0-y49)∧K (0-y49) true y6))∧((decide (y1=45))=false→K y49 true y6)))))))))))))∧(y32=false→(((y5.drop y4.toNat).take (y6.toNat-y4.toNat)).length+([]:Bt).length≤1099511627776∧(I64 ((((y5.drop y4.toNat).take (y6.toNat-y4.toNat)).length:Int)+(0:Int))∧(I64 (((((y5.drop y4.toNat).take (y6.toNat-y4.toNat)).length:Int)+(0:Int))+3)∧(A143 (((y5.drop y4.toNat).take (y6.toNat-y4.toNat))++([]:Bt)) (((((y5.drop y4.toNat).take (y6.toNat-y4.toNat)).length:Int)+(0:Int))+3) (fun y50=>(((decide (y1=45))=true→(I64 (0-y50)∧K (0-y50) true y6))∧((decide (y1=45))=false→K y50 true y6))))))))))))))))))))))∧(y3=false→(∃m,Zu A120 A81 m a1 a0 a1 (fun y51 y52 y53=>((0≤y51∧y51≤y53∧y53≤(y52.length:Int))∧(A124 y52 y53 (fun y54=>((y54=true→(I64 (y53+1)∧(∃m,Zu A120 A81 m (y53+1) y52 (y53+1) (fun y55 y56 y57=>((0≤y55∧y55≤y57∧y57≤(y56.length:Int))∧(A120 y56 y57 (fun y58=>(A140 y58 (fun y59=>((y59=true→(I64 (y57+1)∧(A141 y56 (y57+1) (fun y60=>((y60=true→(I64 (y57+1)∧(A120 y56 (y57+1) (fun y61=>(A120 y56 (y57+1) (fun y62=>(A123 y62 (fun y63=>((y63=true→(I64 ((y57+1)+1)∧(∃m,Zu A120 A81 m ((y57+1)+1) y56 ((y57+1)+1) (fun y64 y65 y66=>((0≤y64∧y64≤y66∧y66≤(y65.length:Int))∧(A142 ((y65.drop y64.toNat).take (y66.toNat-y64.toNat)) (fun y67=>(((decide (y61=45))=true→(I64 (0-y67)∧(((y52.drop y51.toNat).take (y53.toNat-y51.toNat)).length+((y56.drop y55.toNat).take (y57.toNat-y55.toNat)).length≤1099511627776∧(I64 ((((y52.drop y51.toNat).take (y53.toNat-y51.toNat)).length:Int)+(0-y67))∧(I64 (((((y52.drop y51.toNat).take (y53.toNat-y51.toNat)).length:Int)+(0-y67))+3)∧(A143 (((y52.drop y51.toNat).take (y53.toNat-y51.toNat))++((y56.drop y55.toNat).take (y57.toNat-y55.toNat))) (((((y52.drop y51.toNat).take (y53.toNat-y51.toNat)).length:Int)+(0-y67))+3) (fun y68=>(((decide (y1=45))=true→(I64 (0-y68)∧K (0-y68) false y66))∧((decide (y1=45))=false→K y68 false y66)))))))))∧((decide (y61=45))=false→(((y52.drop y51.toNat).take (y53.toNat-y51.toNat)).length+((y56.drop y55.toNat).take (y57.toNat-y55.toNat)).length≤1099511627776∧(I64 ((((y52.drop y51.toNat).take (y53.toNat-y51.toNat)).length:Int)+y67)∧(I64 (((((y52.drop y51.toNat).take (y53.toNat-y51.toNat)).length:Int)+y67)+(3:Int))∧(A143 (((y52.drop y51.toNat).take (y53.toNat-y51.toNat))++((y56.drop y55.toNat).take (y57.toNat-y55.toNat))) (((((y52.drop y51.toNat).take (y53.toNat-y51.toNat)).length:Int)+y67)+(3:Int)) (fun y69=>(((decide (y1=45))=true→(I64 (0-y69)∧K (0-y69) false y66))∧((decide (y1=45))=false→K y69 false y66))))))))))))))))∧(y63=false→(∃m,Zu A120 A81 m (y57+1) y56 (y57+1) (fun y70 y71 y72=>((0≤y70∧y70≤y72∧y72≤(y71.length:Int))∧(A142 ((y71.drop y70.toNat).take (y72.toNat-y70.toNat)) (fun y73=>(((decide (y61=45))=true→(I64 (0-y73)∧(((y52.drop y51.toNat).take (y53.toNat-y51.toNat)).length+((y56.drop y55.toNat).take (y57.toNat-y55.toNat)).length≤1099511627776∧(I64 ((((y52.drop y51.toNat).take (y53.toNat-y51.toNat)).length:Int)+(0-y73))∧(I64 (((((y52.drop y51.toNat).take (y53.toNat-y51.toNat)).length:Int)+(0-y73))+3)∧(A143 (((y52.drop y51.toNat).take (y53.toNat-y51.toNat))++((y56.drop y55.toNat).take (y57.toNat-y55.toNat))) (((((y52.drop y51.toNat).take (y53.toNat-y51.toNat)).length:Int)+(0-y73))+3) (fun y74=>(((decide (y1=45))=true→(I64 (0-y74)∧K (0-y74) false y72))∧((decide (y1=45))=false→K y74 false y72)))))))))∧((decide (y61=45))=false→(((y52.drop y51.toNat).take (y53.toNat-y51.toNat)).length+((y56.drop y55.toNat).take (y57.toNat-y55.toNat)).length≤1099511627776∧(I64 ((((y52.drop y51.toNat).take (y53.toNat-y51.toNat)).length:Int)+y73)∧(I64 (((((y52.drop y51.toNat).take (y53.toNat-y51.toNat)).length:Int)+y73)+(3:Int))∧(A143 (((y52.drop y51.toNat).take (y53.toNat-y51.toNat))++((y56.drop y55.toNat).take (y57.toNat-y55.toNat))) (((((y52.drop y51.toNat).take (y53.toNat-y51.toNat)).length:Int)+y73)+(3:Int)) (fun y75=>(((decide (y1=45))=true→(I64 (0-y75)∧K (0-y75) false y72))∧((decide (y1=45))=false→K y75 false y72))))))))))))))))))))))))∧(y60=false→(((y52.drop y51.toNat).take (y53.toNat-y51.toNat)).length+((y56.drop y55.toNat).take (y57.toNat-y55.toNat)).length≤1099511627776∧(I64 ((((y52.drop y51.toNat).take (y53.toNat-y51.toNat)).length:Int)+(0:Int))∧(I64 (((((y52.drop y51.toNat).take (y53.toNat-y51.toNat)).length:Int)+(0:Int))+3)∧(A143 (((y52.drop y51.toNat).take (y53.toNat-y51.toNat))++((y56.drop y55.toNat).take (y57.toNat-y55.toNat))) (((((y52.drop y51.toNat).take (y53.toNat-y51.toNat)).length:Int)+(0:Int))+3) (fun y76=>(((decide (y1=45))=true→(I64 (0-y76)∧K (0-y76) false y57))∧((decide (y1=45))=false→K y76 false y57)))))))))))))∧(y59=false→(((y52.drop y51.toNat).take (y53.toNat-y51.toNat)).length+((y56.drop y55.toNat).take (y57.toNat-y55.toNat)).length≤1099511627776∧(I64 ((((y52.drop y51.toNat).take (y53.toNat-y51.toNat)).length:Int)+(0:Int))∧(I64 (((((y52.drop y51.toNat).take (y53.toNat-y51.toNat)).length:Int)+(0:Int))+3)∧(A143 (((y52.drop y51.toNat).take (y53.toNat-y51.toNat))++((y56.drop y55.toNat).take (y57.toNat-y55.toNat))) (((((y52.drop y51.toNat).take (y53.toNat-y51.toNat)).length:Int)+(0:Int))+3) (fun y77=>(((decide (y1=45))=true→(I64 (0-y77)∧K (0-y77) false y57))∧((decide (y1=45))=false→K y77 false y57))))))))))))))))))∧(y54=false→(A120 y52 y53 (fun y78=>(A140 y78 (fun y79=>((y79=true→(I64 (y53+1)∧(A141 y52 (y53+1) (fun y80=>((y80=true→(I64 (y53+1)∧(A120 y52 (y53+1) (fun y81=>(A120 y52 (y53+1) (fun y82=>(A123 y82 (fun y83=>((y83=true→(I64 ((y53+1)+1)∧(∃m,Zu A120 A81 m ((y53+1)+1) y52 ((y53+1)+1) (fun y84 y85 y86=>((0≤y84∧y84≤y86∧y86≤(y85.length:Int))∧(A142 ((y85.drop y84.toNat).take (y86.toNat-y84.toNat)) (fun y87=>(((decide (y81=45))=true→(I64 (0-y87)∧(((y52.drop y51.toNat).take (y53.toNat-y51.toNat)).length+([]:Bt).length≤1099511627776∧(I64 ((((y52.drop y51.toNat).take (y53.toNat-y51.toNat)).length:Int)+(0-y87))∧(I64 (((((y52.drop y51.toNat).take (y53.toNat-y51.toNat)).length:Int)+(0-y87))+3)∧(A143 (((y52.drop y51.toNat).take (y53.toNat-y51.toNat))++([]:Bt)) (((((y52.drop y51.toNat).take (y53.toNat-y51.toNat)).length:Int)+(0-y87))+3) (fun y88=>(((decide (y1=45))=true→(I64 (0-y88)∧K (0-y88) false y86))∧((decide (y1=45))=false→K y88 false y86)))))))))∧((decide (y81=45))=false→(((y52.drop y51.toNat).take (y53.toNat-y51.toNat)).length+([]:Bt).length≤1099511627776∧(I64 ((((y52.drop y51.toNat).take (y53.toNat-y51.toNat)).length:Int)+y87)∧(I64 (((((y52.drop y51.toNat).take (y53.toNat-y51.toNat)).length:Int)+y87)+(3:Int))∧(A143 (((y52.drop y51.toNat).take (y53.toNat-y51.toNat))++([]:Bt)) (((((y52.drop y51.toNat).take (y53.toNat-y51.toNat)).length:Int)+y87)+(3:Int)) (fun y89=>(((decide (y1=45))=true→(I64 (0-y89)∧K (0-y89) false y86))∧((decide (y1=45))=false→K y89 false y86))))))))))))))))∧(y83=false→(∃m,Zu A120 A81 m (y53+1) y52 (y53+1) (fun y90 y91 y92=>((0≤y90∧y90≤y92∧y92≤(y91.length:Int))∧(A142 ((y91.drop y90.toNat).take (y92.toNat-y90.toNat)) (fun y93=>(((decide (y81=45))=true→(I64 (0-y93)∧(((y52.drop y51.toNat).take (y53.toNat-y51.toNat)).length+([]:Bt).length≤1099511627776∧(I64 ((((y52.drop y51.toNat).take (y53.toNat-y51.toNat)).length:Int)+(0-y93))∧(I64 (((((y52.drop y51.toNat).take (y53.toNat-y51.toNat)).length:Int)+(0-y93))+3)∧(A143 (((y52.drop y51.toNat).take (y53.toNat-y51.toNat))++([]:Bt)) (((((y52.drop y51.toNat).take (y53.toNat-y51.toNat)).length:Int)+(0-y93))+3) (fun y94=>(((decide (y1=45))=true→(I64 (0-y94)∧K (0-y94) false y92))∧((decide (y1=45))=false→K y94 false y92)))))))))∧((decide (y81=45))=false→(((y52.drop y51.toNat).take (y53.toNat-y51.toNat)).length+([]:Bt).length≤1099511627776∧(I64 ((((y52.drop y51.toNat).take (y53.toNat-y51.toNat)).length:Int)+y93)∧(I64 (((((y52.drop y51.toNat).take (y53.toNat-y51.toNat)).length:Int)+y93)+(3:Int))∧(A143 (((y52.drop y51.toNat).take (y53.toNat-y51.toNat))++([]:Bt)) (((((y52.drop y51.toNat).take (y53.toNat-y51.toNat)).length:Int)+y93)+(3:Int)) (fun y95=>(((decide (y1=45))=true→(I64 (0-y95)∧K (0-y95) false y92))∧((decide (y1=45))=false→K y95 false y92))))))))))))))))))))))))∧(y80=false→(((y52.drop y51.toNat).take (y53.toNat-y51.toNat)).length+([]:Bt).length≤1099511627776∧(I64 ((((y52.drop y51.toNat).take (y53.toNat-y51.toNat)).length:Int)+(0:Int))∧(I64 (((((y52.drop y51.toNat).take (y53.toNat-y51.toNat)).length:Int)+(0:Int))+3)∧(A143 (((y52.drop y51.toNat).take (y53.toNat-y51.toNat))++([]:Bt)) (((((y52.drop y51.toNat).take (y53.toNat-y51.toNat)).length:Int)+(0:Int))+3) (fun y96=>(((decide (y1=45))=true→(I64 (0-y96)∧K (0-y96) true y53))∧((decide (y1=45))=false→K y96 true y53)))))))))))))∧(y79=false→(((y52.drop y51.toNat).take (y53.toNat-y51.toNat)).length+([]:Bt).length≤1099511627776∧(I64 ((((y52.drop y51.toNat).take (y53.toNat-y51.toNat)).length:Int)+(0:Int))∧(I64 (((((y52.drop y51.toNat).take (y53.toNat-y51.toNat)).length:Int)+(0:Int))+3)∧(A143 (((y52.drop y51.toNat).take (y53.toNat-y51.toNat))++([]:Bt)) (((((y52.drop y51.toNat).take (y53.toNat-y51.toNat)).length:Int)+(0:Int))+3) (fun y97=>(((decide (y1=45))=true→(I64 (0-y97)∧K (0-y97) true y53))∧((decide (y1=45))=false→K y97 true y53))))))))))))))))))))))))))))
def Jfl (A124:ZaP) (A120:Ja) (A140:jA) (A141:JM) (A142:zbT) (A143:jbT) (A123:Zw) (A81:zc):jj sg:=tab [(124,con [none,none] (ZaW A124)),(120,con [none,none] (jd A120)),(140,con [none] (Jv A140)),(141,con [none,none] (JF A141)),(142,con [none] (jby A142)),(143,con [none,none] (Zbz A143)),(138,inl sy Tryz.prog GT (JeS A120 A123) noL 1000 Tryz.f138.ntmps (za Tryz.f138) Tryz.f138.results.toList),(139,inl sy Tryz.prog GT (ZdA A120 A81) (zbU A120 A81) 2 Tryz.f139.ntmps (za Tryz.f139) Tryz.f139.results.toList)]
theorem Zgy (A124:ZaP) (A120:Ja) (A140:jA) (A141:JM) (A142:zbT) (A143:jbT) (A123:Zw) (A81:zc) (h124:FO ro 124 (ZaW A124)) (h120:FO ro 120 (jd A120)) (h140:FO ro 140 (Jv A140)) (h141:FO ro 141 (JF A141)) (h142:FO ro 142 (jby A142)) (h143:FO ro 143 (Zbz A143)) (h123:FO ro 123 (JH A123)) (h81:FO ro 81 (Zf A81)) (o0:Nat→Prop):zB sy Tryz.prog GT (ovD ro) o0 ro (Jfl A124 A120 A140 A141 A142 A143 A123 A81):=(Za (Zc h124) (Za (Zc h120) (Za (Zc h140) (Za (Zc h141) (Za (Zc h142) (Za (Zc h143) (Za (Zc7 (f:=138) (fn:=Tryz.f138) (fun _ _=>rfl) Tryz.func138 (by kernel_rfl) rfl rfl (zfl A120 A123 h120 h123) (Ji (l:=[]) (by kernel_rfl) je)) (Za (Zc7 (f:=139) (fn:=Tryz.f139) (fun _ _=>rfl) Tryz.func139 (by kernel_rfl) rfl rfl (JdA A120 A81 h120 h81) (jf3 A120 A81 h120 h81)) Zd)))))))) o0
theorem Jgy (A124:ZaP) (A120:Ja) (A140:jA) (A141:JM) (A142:zbT) (A143:jbT) (A123:Zw) (A81:zc) (a0:Bt) (a1:Int) (k:W→Prop):fnT sy Tryz.prog GT (Jfl A124 A120 A140 A141 A142 A143 A123 A81) noL Tryz.f125.ntmps (za Tryz.f125) [none,none,none] Tryz.f125.results.toList [.s a0,.i .i64 a1] k=Zfl A124 A120 A140 A141 A142 A143 A123 A81 a0 a1 (fun r0 r1 r2=>k (.t [.i .i64 r0,.b r1,.i .i64 r2])):=by kernel_rfl
theorem Zg7 (A124:ZaP) (A120:Ja) (A140:jA) (A141:JM) (A142:zbT) (A143:jbT) (A123:Zw) (A81:zc) (h124:FO ro 124 (ZaW A124)) (h120:FO ro 120 (jd A120)) (h140:FO ro 140 (Jv A140)) (h141:FO ro 141 (JF A141)) (h142:FO ro 142 (jby A142)) (h143:FO ro 143 (Zbz A143)) (h123:FO ro 123 (JH A123)) (h81:FO ro 81 (Zf A81)):FO ro 125 (Jbz (Zfl A124 A120 A140 A141 A142 A143 A123 A81)):=(zx (rc:=[none,none,none]) (f:=125) (fn:=Tryz.f125) (c:=za Tryz.f125) (nt:=Tryz.f125.ntmps) (res:=Tryz.f125.results.toList) (C:=Jfl A124 A120 A140 A141 A142 A143 A123 A81) (L:=noL) (fun _ _=>rfl) Tryz.func125 (by kernel_rfl) rfl rfl (Zgy A124 A120 A140 A141 A142 A143 A123 A81 h124 h120 h140 h141 h142 h143 h123 h81) (Ji (l:=[]) (by kernel_rfl) je)).weak (by
 intro us k h;unfold Jbz at h;split at h
 ·rw [Jgy];exact h
 ·exact h.elim)
abbrev zr:=Int→(Bool→Prop)→Prop
def jx (A:zr) (us:List W) (k:W→Prop):Prop:=match us with
 | [.i .u8 a0]=>A a0 (fun r0=>k (.b r0))
 | _=>False
theorem JcR {A A2:zr} (h:FO ro 116 (jx A)) (hA:∀a0 K,A2 a0 K→A a0 K):FO ro 116 (jx A2):=h.weak (by
 intro us k h;unfold jx at h ⊢;split at h
 ·exact hA _ _ h
 ·exact h.elim)
def Jbc (a0:Int) (K:Bool→Prop):Prop:=
 (((decide ((97:Int)≤a0))=true→(((decide (a0≤122))=false→(((decide ((65:Int)≤a0))=true→K (decide (a0≤90)))∧((decide ((65:Int)≤a0))=false→K false)))∧((decide (a0≤122))=true→K true)))∧((decide ((97:Int)≤a0))=false→(((decide ((65:Int)≤a0))=true→K (decide (a0≤90)))∧((decide ((65:Int)≤a0))=false→K false))))
def ZbU:jj sg:=tab []
theorem JdX (o0:Nat→Prop):zB sy Tryz.prog GT (ovD ro) o0 ro (ZbU):=Zd o0
theorem zdY (a0:Int) (k:W→Prop):fnT sy Tryz.prog GT (ZbU) noL Tryz.f116.ntmps (za Tryz.f116) [none] Tryz.f116.results.toList [.i .u8 a0] k=Jbc a0 (fun r0=>k (.b r0)):=by kernel_rfl
theorem Zen:FO ro 116 (jx (Jbc)):=(zx (rc:=[none]) (f:=116) (fn:=Tryz.f116) (c:=za Tryz.f116) (nt:=Tryz.f116.ntmps) (res:=Tryz.f116.results.toList) (C:=ZbU) (L:=noL) (fun _ _=>rfl) Tryz.func116 (by kernel_rfl) rfl rfl (JdX) (Ji (l:=[]) (by kernel_rfl) je)).weak (by
 intro us k h;unfold jx at h;split at h
 ·rw [zdY];exact h
 ·exact h.elim)
abbrev Jl:=Int→(Bool→Prop)→Prop
def Zq (A:Jl) (us:List W) (k:W→Prop):Prop:=match us with
 | [.i .u8 a0]=>A a0 (fun r0=>k (.b r0))
 | _=>False
theorem Jco {A A2:Jl} (h:FO ro 80 (Zq A)) (hA:∀a0 K,A2 a0 K→A a0 K):FO ro 80 (Zq A2):=h.weak (by
 intro us k h;unfold Zq at h ⊢;split at h
 ·exact hA _ _ h
 ·exact h.elim)
def zaT (A116:zr) (a0:Int) (K:Bool→Prop):Prop:=
 (A116 a0 (fun y1=>((y1=false→(((decide (a0=95))=false→K (decide ((128:Int)≤a0)))∧((decide (a0=95))=true→K true)))∧(y1=true→K true))))
def Zbh (A116:zr):jj sg:=tab [(116,con [none] (jx A116))]
theorem jdd (A116:zr) (h116:FO ro 116 (jx A116)) (o0:Nat→Prop):zB sy Tryz.prog GT (ovD ro) o0 ro (Zbh A116):=(Za (Zc h116) Zd) o0
theorem Zdd (A116:zr) (a0:Int) (k:W→Prop):fnT sy Tryz.prog GT (Zbh A116) noL Tryz.f80.ntmps (za Tryz.f80) [none] Tryz.f80.results.toList [.i .u8 a0] k=zaT A116 a0 (fun r0=>k (.b r0)):=by kernel_rfl
theorem zdB (A116:zr) (h116:FO ro 116 (jx A116)):FO ro 80 (Zq (zaT A116)):=(zx (rc:=[none]) (f:=80) (fn:=Tryz.f80) (c:=za Tryz.f80) (nt:=Tryz.f80.ntmps) (res:=Tryz.f80.results.toList) (C:=Zbh A116) (L:=noL) (fun _ _=>rfl) Tryz.func80 (by kernel_rfl) rfl rfl (jdd A116 h116) (Ji (l:=[]) (by kernel_rfl) je)).weak (by
 intro us k h;unfold Zq at h;split at h
 ·rw [Zdd];exact h
 ·exact h.elim)
abbrev jt:=Bt→Int→(Bool→Prop)→Prop
def ZV (A:jt) (us:List W) (k:W→Prop):Prop:=match us with
 | [.s a0,.i .i64 a1]=>A a0 a1 (fun r0=>k (.b r0))
 | _=>False
theorem zeU {A A2:jt} (h:FO ro 122 (ZV A)) (hA:∀a0 a1 K,A2 a0 a1 K→A a0 a1 K):FO ro 122 (ZV A2):=h.weak (by
 intro us k h;unfold ZV at h ⊢;split at h
 ·exact hA _ _ _ h
 ·exact h.elim)
def Jen (A120:Ja) (a0:Bt) (a1:Int) (K:Bool→Prop):Prop:=
 (A120 a0 a1 (fun y1=>(((decide (y1=92))=true→(I64 (a1+1)∧(A120 a0 (a1+1) (fun y2=>K (decide (y2≠10))))))∧((decide (y1=92))=false→K false))))
def zfm (A120:Ja):jj sg:=tab [(120,con [none,none] (jd A120))]
theorem zgz (A120:Ja) (h120:FO ro 120 (jd A120)) (o0:Nat→Prop):zB sy Tryz.prog GT (ovD ro) o0 ro (zfm A120):=(Za (Zc h120) Zd) o0
theorem jgz (A120:Ja) (a0:Bt) (a1:Int) (k:W→Prop):fnT sy Tryz.prog GT (zfm A120) noL Tryz.f122.ntmps (za Tryz.f122) [none] Tryz.f122.results.toList [.s a0,.i .i64 a1] k=Jen A120 a0 a1 (fun r0=>k (.b r0)):=by kernel_rfl
theorem Jg7 (A120:Ja) (h120:FO ro 120 (jd A120)):FO ro 122 (ZV (Jen A120)):=(zx (rc:=[none]) (f:=122) (fn:=Tryz.f122) (c:=za Tryz.f122) (nt:=Tryz.f122.ntmps) (res:=Tryz.f122.results.toList) (C:=zfm A120) (L:=noL) (fun _ _=>rfl) Tryz.func122 (by kernel_rfl) rfl rfl (zgz A120 h120) (Ji (l:=[]) (by kernel_rfl) je)).weak (by
 intro us k h;unfold ZV at h;split at h
 ·rw [jgz];exact h
 ·exact h.elim)
abbrev Jt:=Bt→Int→(Bool→Prop)→Prop
def Zy (A:Jt) (us:List W) (k:W→Prop):Prop:=match us with
 | [.s a0,.i .i64 a1]=>A a0 a1 (fun r0=>k (.b r0))
 | _=>False
theorem zcp {A A2:Jt} (h:FO ro 97 (Zy A)) (hA:∀a0 a1 K,A2 a0 a1 K→A a0 a1 K):FO ro 97 (Zy A2):=h.weak (by
 intro us k h;unfold Zy at h ⊢;split at h
 ·exact hA _ _ _ h
 ·exact h.elim)
def jaT (A120:Ja) (A80:Jl) (A122:jt) (a0:Bt) (a1:Int) (K:Bool→Prop):Prop:=
 (A120 a0 a1 (fun y1=>(((decide (y1≠45))=true→(A120 a0 a1 (fun y2=>(A80 y2 (fun y3=>((y3=false→(A122 a0 a1 (fun y4=>K y4)))∧(y3=true→K true)))))))∧((decide (y1≠45))=false→(I64 (a1+1)∧(A120 a0 (a1+1) (fun y5=>(A80 y5 (fun y6=>((y6=false→(((decide (y5=45))=false→(I64 (a1+1)∧(A122 a0 (a1+1) (fun y7=>K y7))))∧((decide (y5=45))=true→K true)))∧(y6=true→K true)))))))))))
def Jbh (A120:Ja) (A80:Jl) (A122:jt):jj sg:=tab [(120,con [none,none] (jd A120)),(80,con [none] (Zq A80)),(122,con [none,none] (ZV A122))]
theorem Jdd (A120:Ja) (A80:Jl) (A122:jt) (h120:FO ro 120 (jd A120)) (h80:FO ro 80 (Zq A80)) (h122:FO ro 122 (ZV A122)) (o0:Nat→Prop):zB sy Tryz.prog GT (ovD ro) o0 ro (Jbh A120 A80 A122):=(Za (Zc h120) (Za (Zc h80) (Za (Zc h122) Zd))) o0
theorem zde (A120:Ja) (A80:Jl) (A122:jt) (a0:Bt) (a1:Int) (k:W→Prop):fnT sy Tryz.prog GT (Jbh A120 A80 A122) noL Tryz.f97.ntmps (za Tryz.f97) [none] Tryz.f97.results.toList [.s a0,.i .i64 a1] k=jaT A120 A80 A122 a0 a1 (fun r0=>k (.b r0)):=by kernel_rfl
theorem jdB (A120:Ja) (A80:Jl) (A122:jt) (h120:FO ro 120 (jd A120)) (h80:FO ro 80 (Zq A80)) (h122:FO ro 122 (ZV A122)):FO ro 97 (Zy (jaT A120 A80 A122)):=(zx (rc:=[none]) (f:=97) (fn:=Tryz.f97) (c:=za Tryz.f97) (nt:=Tryz.f97.ntmps) (res:=Tryz.f97.results.toList) (C:=Jbh A120 A80 A122) (L:=noL) (fun _ _=>rfl) Tryz.func97 (by kernel_rfl) rfl rfl (Jdd A120 A80 A122 h120 h80 h122) (Ji (l:=[]) (by kernel_rfl) je)).weak (by
 intro us k h;unfold Zy at h;split at h
 ·rw [zde];exact h
 ·exact h.elim)
abbrev zg:=Int→(Bool→Prop)→Prop
def Zp (A:zg) (us:List W) (k:W→Prop):Prop:=match us with
 | [.i .u8 a0]=>A a0 (fun r0=>k (.b r0))
 | _=>False
theorem zcS {A A2:zg} (h:FO ro 89 (Zp A)) (hA:∀a0 K,A2 a0 K→A a0 K):FO ro 89 (Zp A2):=h.weak (by
 intro us k h;unfold Zp at h ⊢;split at h
 ·exact hA _ _ h
 ·exact h.elim)
def zbd (A80:Jl) (A81:zc) (a0:Int) (K:Bool→Prop):Prop:=
 (A80 a0 (fun y1=>((y1=false→(A81 a0 (fun y2=>((y2=false→K (decide (a0=45)))∧(y2=true→K true)))))∧(y1=true→K true))))
def JbU (A80:Jl) (A81:zc):jj sg:=tab [(80,con [none] (Zq A80)),(81,con [none] (Zf A81))]
theorem jdY (A80:Jl) (A81:zc) (h80:FO ro 80 (Zq A80)) (h81:FO ro 81 (Zf A81)) (o0:Nat→Prop):zB sy Tryz.prog GT (ovD ro) o0 ro (JbU A80 A81):=(Za (Zc h80) (Za (Zc h81) Zd)) o0
theorem ZdY (A80:Jl) (A81:zc) (a0:Int) (k:W→Prop):fnT sy Tryz.prog GT (JbU A80 A81) noL Tryz.f89.ntmps (za Tryz.f89) [none] Tryz.f89.results.toList [.i .u8 a0] k=zbd A80 A81 a0 (fun r0=>k (.b r0)):=by kernel_rfl
theorem zeo (A80:Jl) (A81:zc) (h80:FO ro 80 (Zq A80)) (h81:FO ro 81 (Zf A81)):FO ro 89 (Zp (zbd A80 A81)):=(zx (rc:=[none]) (f:=89) (fn:=Tryz.f89) (c:=za Tryz.f89) (nt:=Tryz.f89.ntmps) (res:=Tryz.f89.results.toList) (C:=JbU A80 A81) (L:=noL) (fun _ _=>rfl) Tryz.func89 (by kernel_rfl) rfl rfl (jdY A80 A81 h80 h81) (Ji (l:=[]) (by kernel_rfl) je)).weak (by
 intro us k h;unfold Zp at h;split at h
 ·rw [ZdY];exact h
 ·exact h.elim)
abbrev ZZ:=Bt→Int→(Bool→Prop)→Prop
def ZaH (A:ZZ) (us:List W) (k:W→Prop):Prop:=match us with
 | [.s a0,.i .i64 a1]=>A a0 a1 (fun r0=>k (.b r0))
 | _=>False
theorem jeU {A A2:ZZ} (h:FO ro 96 (ZaH A)) (hA:∀a0 a1 K,A2 a0 a1 K→A a0 a1 K):FO ro 96 (ZaH A2):=h.weak (by
 intro us k h;unfold ZaH at h ⊢;split at h
 ·exact hA _ _ _ h
 ·exact h.elim)
def jeo (A120:Ja) (A89:zg) (A122:jt) (a0:Bt) (a1:Int) (K:Bool→Prop):Prop:=
 (A120 a0 a1 (fun y1=>(A89 y1 (fun y2=>((y2=false→(A122 a0 a1 (fun y3=>K y3)))∧(y2=true→K true))))))
def jfm (A120:Ja) (A89:zg) (A122:jt):jj sg:=tab [(120,con [none,none] (jd A120)),(89,con [none] (Zp A89)),(122,con [none,none] (ZV A122))]
theorem Zgz (A120:Ja) (A89:zg) (A122:jt) (h120:FO ro 120 (jd A120)) (h89:FO ro 89 (Zp A89)) (h122:FO ro 122 (ZV A122)) (o0:Nat→Prop):zB sy Tryz.prog GT (ovD ro) o0 ro (jfm A120 A89 A122):=(Za (Zc h120) (Za (Zc h89) (Za (Zc h122) Zd))) o0
theorem Jgz (A120:Ja) (A89:zg) (A122:jt) (a0:Bt) (a1:Int) (k:W→Prop):fnT sy Tryz.prog GT (jfm A120 A89 A122) noL Tryz.f96.ntmps (za Tryz.f96) [none] Tryz.f96.results.toList [.s a0,.i .i64 a1] k=jeo A120 A89 A122 a0 a1 (fun r0=>k (.b r0)):=by kernel_rfl
theorem zg8 (A120:Ja) (A89:zg) (A122:jt) (h120:FO ro 120 (jd A120)) (h89:FO ro 89 (Zp A89)) (h122:FO ro 122 (ZV A122)):FO ro 96 (ZaH (jeo A120 A89 A122)):=(zx (rc:=[none]) (f:=96) (fn:=Tryz.f96) (c:=za Tryz.f96) (nt:=Tryz.f96.ntmps) (res:=Tryz.f96.results.toList) (C:=jfm A120 A89 A122) (L:=noL) (fun _ _=>rfl) Tryz.func96 (by kernel_rfl) rfl rfl (Zgz A120 A89 A122 h120 h89 h122) (Ji (l:=[]) (by kernel_rfl) je)).weak (by
 intro us k h;unfold ZaH at h;split at h
 ·rw [Jgz];exact h
 ·exact h.elim)
abbrev Zb:=Int→(Bool→Prop)→Prop
def zi (A:Zb) (us:List W) (k:W→Prop):Prop:=match us with
 | [.i .u8 a0]=>A a0 (fun r0=>k (.b r0))
 | _=>False
theorem jde {A A2:Zb} (h:FO ro 78 (zi A)) (hA:∀a0 K,A2 a0 K→A a0 K):FO ro 78 (zi A2):=h.weak (by
 intro us k h;unfold zi at h ⊢;split at h
 ·exact hA _ _ h
 ·exact h.elim)
def zbA (a0:Int) (K:Bool→Prop):Prop:=
 (((decide (a0=10))=false→(((decide (a0=9))=false→K (decide (a0=32)))∧((decide (a0=9))=true→K true)))∧((decide (a0=10))=true→K true))
def jcp:jj sg:=tab []
theorem Zeo (o0:Nat→Prop):zB sy Tryz.prog GT (ovD ro) o0 ro (jcp):=Zd o0
theorem Jeo (a0:Int) (k:W→Prop):fnT sy Tryz.prog GT (jcp) noL Tryz.f78.ntmps (za Tryz.f78) [none] Tryz.f78.results.toList [.i .u8 a0] k=zbA a0 (fun r0=>k (.b r0)):=by kernel_rfl
theorem ZeU:FO ro 78 (zi (zbA)):=(zx (rc:=[none]) (f:=78) (fn:=Tryz.f78) (c:=za Tryz.f78) (nt:=Tryz.f78.ntmps) (res:=Tryz.f78.results.toList) (C:=jcp) (L:=noL) (fun _ _=>rfl) Tryz.func78 (by kernel_rfl) rfl rfl (Zeo) (Ji (l:=[]) (by kernel_rfl) je)).weak (by
 intro us k h;unfold zi at h;split at h
 ·rw [Jeo];exact h
 ·exact h.elim)
abbrev Zv:=Int→(Bool→Prop)→Prop
def zC (A:Zv) (us:List W) (k:W→Prop):Prop:=match us with
 | [.i .u8 a0]=>A a0 (fun r0=>k (.b r0))
 | _=>False
theorem Zde {A A2:Zv} (h:FO ro 79 (zC A)) (hA:∀a0 K,A2 a0 K→A a0 K):FO ro 79 (zC A2):=h.weak (by
 intro us k h;unfold zC at h ⊢;split at h
 ·exact hA _ _ h
 ·exact h.elim)
def jbA (a0:Int) (K:Bool→Prop):Prop:=
 (((decide (a0=34))=false→K (decide (a0=39)))∧((decide (a0=34))=true→K true))
def Zcp:jj sg:=tab []
theorem zep (o0:Nat→Prop):zB sy Tryz.prog GT (ovD ro) o0 ro (Zcp):=Zd o0
theorem jep (a0:Int) (k:W→Prop):fnT sy Tryz.prog GT (Zcp) noL Tryz.f79.ntmps (za Tryz.f79) [none] Tryz.f79.results.toList [.i .u8 a0] k=jbA a0 (fun r0=>k (.b r0)):=by kernel_rfl
theorem JeU:FO ro 79 (zC (jbA)):=(zx (rc:=[none]) (f:=79) (fn:=Tryz.f79) (c:=za Tryz.f79) (nt:=Tryz.f79.ntmps) (res:=Tryz.f79.results.toList) (C:=Zcp) (L:=noL) (fun _ _=>rfl) Tryz.func79 (by kernel_rfl) rfl rfl (zep) (Ji (l:=[]) (by kernel_rfl) je)).weak (by
 intro us k h;unfold zC at h;split at h
 ·rw [jep];exact h
 ·exact h.elim)
abbrev zN:=Bt→Int→(Int→Prop)→Prop
def jam (A:zN) (us:List W) (k:W→Prop):Prop:=match us with
 | [.s a0,.i .i64 a1]=>A a0 a1 (fun r0=>k (.i .i64 r0))
 | _=>False
theorem zeV {A A2:zN} (h:FO ro 94 (jam A)) (hA:∀a0 a1 K,A2 a0 a1 K→A a0 a1 K):FO ro 94 (jam A2):=h.weak (by
 intro us k h;unfold jam at h ⊢;split at h
 ·exact hA _ _ _ h
 ·exact h.elim)
def Zb9 (A120:Ja) (A78:Zb):Nat→Bt→Int→(Int→Prop)→Prop
 | 0,_,_,_=>False
 | n+1,x0,x1,Ke=>(A120 x0 x1 (fun y1=>(A78 y1 (fun y2=>((y2=true→(I64 (x1+1)∧Zb9 A120 A78 n x0 (x1+1) Ke))∧(y2=false→Ke x1))))))
def Zfm (A120:Ja) (A78:Zb) (a0:Bt) (a1:Int) (K:Int→Prop):Prop:=
 (∃m,Zb9 A120 A78 m a0 a1 (fun y1=>K y1))
def Zep (A120:Ja) (A78:Zb):jj sg:=tab [(120,con [none,none] (jd A120)),(78,con [none] (zi A78))]
theorem jeV (A120:Ja) (A78:Zb) (h120:FO ro 120 (jd A120)) (h78:FO ro 78 (zi A78)) (o0:Nat→Prop):zB sy Tryz.prog GT (ovD ro) o0 ro (Zep A120 A78):=(Za (Zc h120) (Za (Zc h78) Zd)) o0
abbrev jcS:Type:=((Bt)×Int×Unit)
abbrev Yb_k_bSp_1:Type:=Unit
def ls_k_bSp_1:LS sy jcS Yb_k_bSp_1:=⟨[],Jc 0 (jl sy) (Jc 1 (Je sy .i64) (JD sy)),zE sy,0,[]⟩
def le_k_bSp_1:LS sy (Int×Unit) Unit:=⟨[],Jc 1 (Je sy .i64) (JD sy),zE sy,0,[]⟩
def ZcS:LS sy Unit Unit:=⟨[],JD sy,zE sy,0,[]⟩
def Jb9 (A120:Ja) (A78:Zb) (n:Nat) (x:jcS×Yb_k_bSp_1) (K:Ex→Z sg→Prop):Prop:=Zb9 A120 A78 n x.1.1 x.1.2.1 (fun y0=>K (.exit 0) (le_k_bSp_1.put ((y0,()),())))
def zgA (A120:Ja) (A78:Zb) (z:Z sg) (K:Ex→Z sg→Prop):Prop:=ls_k_bSp_1.get z (fun x=>∃n,Jb9 A120 A78 n x K)
def JcS (A120:Ja) (A78:Zb):jV sg:=Zcn [(1,zgA A120 A78)]
theorem Zf3 (A120:Ja) (A78:Zb) (n:Nat) (x:jcS×Yb_k_bSp_1) (K:Ex→Z sg→Prop):Js (ls_k_bSp_1.put x) (fun z=>sC sy Tryz.prog GT (Zep A120 A78) (JcS A120 A78) Tryz.f94.ntmps (zb (za Tryz.f94) 0) z (rnd ls_k_bSp_1 (czT 0 le_k_bSp_1 ZcS) (fun x=>Jb9 A120 A78 n x K) K))=Jb9 A120 A78 (n+1) x K:=by kernel_rfl
theorem Jf3 (A120:Ja) (A78:Zb) (z:Z sg) (K:Ex→Z sg→Prop):(JcS A120 A78) (zb (za Tryz.f94) 0) z K=ls_k_bSp_1.get z (fun x=>∃n,Jb9 A120 A78 n x K):=by kernel_rfl
theorem zf4 (A120:Ja) (A78:Zb) (h120:FO ro 120 (jd A120)) (h78:FO ro 78 (zi A78)):∀(o0:Nat→Prop) (B:Bs sg),B.E.length≤0→∀z K,(JcS A120 A78) (zb (za Tryz.f94) 0) z K→Sx.Sem sy Tryz.prog GT (ovD ro) o0 ro Tryz.f94.ntmps B (.loop (zb (za Tryz.f94) 0)) z K:=
 ZE (jeV A120 A78 h120 h78) (Ji (l:=[]) (by kernel_rfl) je) ls_k_bSp_1 (by decide) (czT 0 le_k_bSp_1 ZcS) (fun _ _ hB=>JU 0 le_k_bSp_1 ZcS (Nat.le_trans hB (by decide)) (Nat.le_trans hB (by decide))) (fun _ _ h=>h) (Zf3 A120 A78) (Jf3 A120 A78)
theorem jg8 (A120:Ja) (A78:Zb) (h120:FO ro 120 (jd A120)) (h78:FO ro 78 (zi A78)):Jb7 sy Tryz.prog GT (ovD ro) ro (JcS A120 A78) 0 Tryz.f94.ntmps (za Tryz.f94):=Ji (l:=[(zb (za Tryz.f94) 0)]) (by kernel_rfl) (jE (zf4 A120 A78 h120 h78) je)
theorem jgA (A120:Ja) (A78:Zb) (a0:Bt) (a1:Int) (k:W→Prop):fnT sy Tryz.prog GT (Zep A120 A78) (JcS A120 A78) Tryz.f94.ntmps (za Tryz.f94) [none] Tryz.f94.results.toList [.s a0,.i .i64 a1] k=Zfm A120 A78 a0 a1 (fun r0=>k (.i .i64 r0)):=by kernel_rfl
theorem Zg8 (A120:Ja) (A78:Zb) (h120:FO ro 120 (jd A120)) (h78:FO ro 78 (zi A78)):FO ro 94 (jam (Zfm A120 A78)):=(zx (rc:=[none]) (f:=94) (fn:=Tryz.f94) (c:=za Tryz.f94) (nt:=Tryz.f94.ntmps) (res:=Tryz.f94.results.toList) (C:=Zep A120 A78) (L:=(JcS A120 A78)) (fun _ _=>rfl) Tryz.func94 (by kernel_rfl) rfl rfl (jeV A120 A78 h120 h78) (jg8 A120 A78 h120 h78)).weak (by
 intro us k h;unfold jam at h;split at h
 ·rw [jgA];exact h
 ·exact h.elim)
abbrev jbd:=Bt→Bt→(Bool→Prop)→Prop
def za0 (A:jbd) (us:List W) (k:W→Prop):Prop:=match us with
 | [.s a0,.s a1]=>A a0 a1 (fun r0=>k (.b r0))
 | _=>False
theorem Jep {A A2:jbd} (h:FO ro 118 (za0 A)) (hA:∀a0 a1 K,A2 a0 a1 K→A a0 a1 K):FO ro 118 (za0 A2):=h.weak (by
 intro us k h;unfold za0 at h ⊢;split at h
 ·exact hA _ _ _ h
 ·exact h.elim)
def zeq (a0:Bt) (a1:Bt) (K:Bool→Prop):Prop:=
 (((decide ((a1.length:Int)≤(a0.length:Int)))=true→((0≤(a1.length:Int)∧(a1.length:Int)≤(a0.length:Int))∧K ((a0.take (a1.length:Int).toNat)==a1)))∧((decide ((a1.length:Int)≤(a0.length:Int)))=false→K false))
def jeq:jj sg:=tab []
theorem jf4 (o0:Nat→Prop):zB sy Tryz.prog GT (ovD ro) o0 ro (jeq):=Zd o0
theorem Zf4 (a0:Bt) (a1:Bt) (k:W→Prop):fnT sy Tryz.prog GT (jeq) noL Tryz.f118.ntmps (za Tryz.f118) [none] Tryz.f118.results.toList [.s a0,.s a1] k=zeq a0 a1 (fun r0=>k (.b r0)):=by kernel_rfl
theorem ZgA:FO ro 118 (za0 (zeq)):=(zx (rc:=[none]) (f:=118) (fn:=Tryz.f118) (c:=za Tryz.f118) (nt:=Tryz.f118.ntmps) (res:=Tryz.f118.results.toList) (C:=jeq) (L:=noL) (fun _ _=>rfl) Tryz.func118 (by kernel_rfl) rfl rfl (jf4) (Ji (l:=[]) (by kernel_rfl) je)).weak (by
 intro us k h;unfold za0 at h;split at h
 ·rw [Zf4];exact h
 ·exact h.elim)
abbrev ZA:=Bt→Bt→(Bool→Prop)→Prop
def zX (A:ZA) (us:List W) (k:W→Prop):Prop:=match us with
 | [.s a0,.s a1]=>A a0 a1 (fun r0=>k (.b r0))
 | _=>False
theorem Zeq {A A2:ZA} (h:FO ro 92 (zX A)) (hA:∀a0 a1 K,A2 a0 a1 K→A a0 a1 K):FO ro 92 (zX A2):=h.weak (by
 intro us k h;unfold zX at h ⊢;split at h
 ·exact hA _ _ _ h
 ·exact h.elim)
def Jeq (A118:jbd) (a0:Bt) (a1:Bt) (K:Bool→Prop):Prop:=
 (A118 a0 a1 (fun y1=>K y1))
def zer (A118:jbd):jj sg:=tab [(118,con [none,none] (za0 A118))]
theorem Jf4 (A118:jbd) (h118:FO ro 118 (za0 A118)) (o0:Nat→Prop):zB sy Tryz.prog GT (ovD ro) o0 ro (zer A118):=(Za (Zc h118) Zd) o0
theorem zf5 (A118:jbd) (a0:Bt) (a1:Bt) (k:W→Prop):fnT sy Tryz.prog GT (zer A118) noL Tryz.f92.ntmps (za Tryz.f92) [none] Tryz.f92.results.toList [.s a0,.s a1] k=Jeq A118 a0 a1 (fun r0=>k (.b r0)):=by kernel_rfl
theorem JgA (A118:jbd) (h118:FO ro 118 (za0 A118)):FO ro 92 (zX (Jeq A118)):=(zx (rc:=[none]) (f:=92) (fn:=Tryz.f92) (c:=za Tryz.f92) (nt:=Tryz.f92.ntmps) (res:=Tryz.f92.results.toList) (C:=zer A118) (L:=noL) (fun _ _=>rfl) Tryz.func92 (by kernel_rfl) rfl rfl (Jf4 A118 h118) (Ji (l:=[]) (by kernel_rfl) je)).weak (by
 intro us k h;unfold zX at h;split at h
 ·rw [zf5];exact h
 ·exact h.elim)
abbrev jg:=Bt→(Bool→Prop)→Prop
def Jk (A:jg) (us:List W) (k:W→Prop):Prop:=match us with
 | [.s a0]=>A a0 (fun r0=>k (.b r0))
 | _=>False
theorem Zba {A A2:jg} (h:FO ro 91 (Jk A)) (hA:∀a0 K,A2 a0 K→A a0 K):FO ro 91 (Jk A2):=h.weak (by
 intro us k h;unfold Jk at h ⊢;split at h
 ·exact hA _ _ h
 ·exact h.elim)
def Zam (a0:Bt) (K:Bool→Prop):Prop:=
 (((decide ((0:Int)<(a0.length:Int)))=true→((0≤(0:Int)∧(0:Int)<(a0.length:Int))∧K (decide (((a0.getD 0 0).toNat:Int)=(10:Int)))))∧((decide ((0:Int)<(a0.length:Int)))=false→K false))
def Jam:jj sg:=tab []
theorem ZbA (o0:Nat→Prop):zB sy Tryz.prog GT (ovD ro) o0 ro (Jam):=Zd o0
theorem JbA (a0:Bt) (k:W→Prop):fnT sy Tryz.prog GT (Jam) noL Tryz.f91.ntmps (za Tryz.f91) [none] Tryz.f91.results.toList [.s a0] k=Zam a0 (fun r0=>k (.b r0)):=by kernel_rfl
theorem jbM:FO ro 91 (Jk (Zam)):=(zx (rc:=[none]) (f:=91) (fn:=Tryz.f91) (c:=za Tryz.f91) (nt:=Tryz.f91.ntmps) (res:=Tryz.f91.results.toList) (C:=Jam) (L:=noL) (fun _ _=>rfl) Tryz.func91 (by kernel_rfl) rfl rfl (ZbA) (Ji (l:=[]) (by kernel_rfl) je)).weak (by
 intro us k h;unfold Jk at h;split at h
 ·rw [JbA];exact h
 ·exact h.elim)
abbrev zK:=Bt→(Bt→Int→Prop)→Prop
def jaf (A:zK) (us:List W) (k:W→Prop):Prop:=match us with
 | [.s a0]=>A a0 (fun r0 r1=>k (.t [.s r0,.i .i64 r1]))
 | _=>False
theorem JdY {A A2:zK} (h:FO ro 67 (jaf A)) (hA:∀a0 K,A2 a0 K→A a0 K):FO ro 67 (jaf A2):=h.weak (by
 intro us k h;unfold jaf at h ⊢;split at h
 ·exact hA _ _ h
 ·exact h.elim)
def Jaa (A91:jg):Nat→Bt→Int→Bt→(Bt→Prop)→Prop
 | 0,_,_,_,_=>False
 | n+1,x0,x5,b0,Ke=>(((decide (x5<(x0.length:Int)))=true→((0≤x5∧x5<(x0.length:Int))∧(((decide (((x0.getD x5.toNat 0).toNat:Int)=(0:Int)))=true→((b0.length+([239,191,189]:Bt).length)*1≤1099511627776∧(I64 (x5+1)∧Jaa A91 n x0 (x5+1) (b0++([239,191,189]:Bt)) Ke)))∧((decide (((x0.getD x5.toNat 0).toNat:Int)=(0:Int)))=false→(((decide (((x0.getD x5.toNat 0).toNat:Int)=(12:Int)))=true→((0≤(10:Int)∧(10:Int)≤255)∧((b0.length+[UInt8.ofNat 10].length)*1≤1099511627776∧(I64 (x5+1)∧Jaa A91 n x0 (x5+1) (b0++[UInt8.ofNat 10]) Ke))))∧((decide (((x0.getD x5.toNat 0).toNat:Int)=(12:Int)))=false→(((decide (((x0.getD x5.toNat 0).toNat:Int)=(13:Int)))=true→(I64 (x5+1)∧((0≤(x5+1)∧(x5+1)≤(x0.length:Int))∧(A91 (x0.drop (x5+1).toNat) (fun y1=>(((!y1)=true→((0≤(10:Int)∧(10:Int)≤255)∧((b0.length+[UInt8.ofNat 10].length)*1≤1099511627776∧(I64 (x5+1)∧Jaa A91 n x0 (x5+1) (b0++[UInt8.ofNat 10]) Ke))))∧((!y1)=false→(I64 (x5+1)∧Jaa A91 n x0 (x5+1) b0 Ke))))))))∧((decide (((x0.getD x5.toNat 0).toNat:Int)=(13:Int)))=false→((0≤x5∧x5<(x0.length:Int))∧((0≤((x0.getD x5.toNat 0).toNat:Int)∧((x0.getD x5.toNat 0).toNat:Int)≤255)∧((b0.length+[UInt8.ofNat (((x0.getD x5.toNat 0).toNat:Int).toNat)].length)*1≤1099511627776∧(I64 (x5+1)∧Jaa A91 n x0 (x5+1) (b0++[UInt8.ofNat (((x0.getD x5.toNat 0).toNat:Int).toNat)]) Ke))))))))))))∧((decide (x5<(x0.length:Int)))=false→Ke b0))
def ZdB (A91:jg) (a0:Bt) (K:Bt→Int→Prop):Prop:=
 (((decide ((4000:Int)<(a0.length:Int)))=true→K ([]:Bt) (28:Int))∧((decide ((4000:Int)<(a0.length:Int)))=false→((0≤(0:Int)∧(0:Int)≤(a0.length:Int)∧1*(a0.length:Int)≤1099511627776∧(a0.length:Int)≤1099511627776)∧((0≤(0:Int)∧(0:Int)≤255)∧(∃m,Jaa A91 m a0 (0:Int) (List.replicate 0 (UInt8.ofNat 0)) (fun y1=>K y1 (0:Int)))))))
def JcA (A91:jg):jj sg:=tab [(91,con [none] (Jk A91))]
theorem JdB (A91:jg) (h91:FO ro 91 (Jk A91)) (o0:Nat→Prop):zB sy Tryz.prog GT (ovD ro) o0 ro (JcA A91):=(Za (Zc h91) Zd) o0
abbrev zbV:Type:=((Bt)×Unit×Int×Unit)
abbrev Yb_i_Clean_5:Type:=(List (sg.Den Cd.u8)×Unit)
def ls_i_Clean_5:LS sy zbV Yb_i_Clean_5:=⟨[],Jc 0 (jl sy) (Jc 4 (jJ sy (.o 0)) (Jc 5 (Je sy .i64) (JD sy))),zP 0 Cd.u8 (zE sy),1,[0]⟩
def le_i_Clean_5:LS sy (Unit×Unit) (List (sg.Den Cd.u8)×Unit):=⟨[],Jc 4 (jJ sy (.o 0)) (JD sy),zP 0 Cd.u8 (zE sy),1,[0]⟩
def jbV:LS sy Unit Unit:=⟨[],JD sy,zE sy,0,[]⟩
def Zbd (A91:jg) (n:Nat) (x:zbV×Yb_i_Clean_5) (K:Ex→Z sg→Prop):Prop:=Jaa A91 n x.1.1 x.1.2.2.1 x.2.1 (fun y0=>K (.exit 0) (le_i_Clean_5.put (((),()),(y0,()))))
def Jfm (A91:jg) (z:Z sg) (K:Ex→Z sg→Prop):Prop:=ls_i_Clean_5.get z (fun x=>∃n,Zbd A91 n x K)
def jbq (A91:jg):jV sg:=Zcn [(5,Jfm A91)]
theorem ZeV (A91:jg) (n:Nat) (x:zbV×Yb_i_Clean_5) (K:Ex→Z sg→Prop):Js (ls_i_Clean_5.put x) (fun z=>sC sy Tryz.prog GT (JcA A91) (jbq A91) Tryz.f67.ntmps (zb (za Tryz.f67) 0) z (rnd ls_i_Clean_5 (czT 0 le_i_Clean_5 jbV) (fun x=>Zbd A91 n x K) K))=Zbd A91 (n+1) x K:=by kernel_rfl
theorem JeV (A91:jg) (z:Z sg) (K:Ex→Z sg→Prop):(jbq A91) (zb (za Tryz.f67) 0) z K=ls_i_Clean_5.get z (fun x=>∃n,Zbd A91 n x K):=by kernel_rfl
theorem zeW (A91:jg) (h91:FO ro 91 (Jk A91)):∀(o0:Nat→Prop) (B:Bs sg),B.E.length≤0→∀z K,(jbq A91) (zb (za Tryz.f67) 0) z K→Sx.Sem sy Tryz.prog GT (ovD ro) o0 ro Tryz.f67.ntmps B (.loop (zb (za Tryz.f67) 0)) z K:=
 ZE (JdB A91 h91) (Ji (l:=[]) (by kernel_rfl) je) ls_i_Clean_5 (by decide) (czT 0 le_i_Clean_5 jbV) (fun _ _ hB=>JU 0 le_i_Clean_5 jbV (Nat.le_trans hB (by decide)) (Nat.le_trans hB (by decide))) (fun _ _ h=>h) (ZeV A91) (JeV A91)
theorem jf5 (A91:jg) (h91:FO ro 91 (Jk A91)):Jb7 sy Tryz.prog GT (ovD ro) ro (jbq A91) 0 Tryz.f67.ntmps (za Tryz.f67):=Ji (l:=[(zb (za Tryz.f67) 0)]) (by kernel_rfl) (jE (zeW A91 h91) je)
theorem zfn (A91:jg) (a0:Bt) (k:W→Prop):fnT sy Tryz.prog GT (JcA A91) (jbq A91) Tryz.f67.ntmps (za Tryz.f67) [none,none] Tryz.f67.results.toList [.s a0] k=ZdB A91 a0 (fun r0 r1=>k (.t [.s r0,.i .i64 r1])):=by kernel_rfl
theorem Zf5 (A91:jg) (h91:FO ro 91 (Jk A91)):FO ro 67 (jaf (ZdB A91)):=(zx (rc:=[none,none]) (f:=67) (fn:=Tryz.f67) (c:=za Tryz.f67) (nt:=Tryz.f67.ntmps) (res:=Tryz.f67.results.toList) (C:=JcA A91) (L:=(jbq A91)) (fun _ _=>rfl) Tryz.func67 (by kernel_rfl) rfl rfl (JdB A91 h91) (jf5 A91 h91)).weak (by
 intro us k h;unfold jaf at h;split at h
 ·rw [zfn];exact h
 ·exact h.elim)
end Go.Proofs.YtmnegokadegioaaGreatDoor
