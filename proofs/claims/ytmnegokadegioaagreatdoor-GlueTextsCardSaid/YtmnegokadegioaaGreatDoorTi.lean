/-
 Shapes of tokens, followed. Nothing is claimed here.
-/
import Derived.Test.YtmnegokadegioaaGreatDoorTh
import Derived.Test.YtmnegokadegioaaGreatDoorSa2
namespace Go.Proofs.YtmnegokadegioaaGreatDoor
open Go.Vm Go.Sx Go.RowKit
variable {ro:Nat}
def syo:Sy sg:=sy.grown fun c=>match c with|Cd.u8=>true|_=>false
abbrev FP (ro:Nat) (f:FuncId) (pt:List W→(W→Prop)→Prop):Prop:=FnOK syo Tryz.prog GT (ovD ro) ro f pt
abbrev CP (ro:Nat) (o0:Nat→Prop) (C:Zj sg):Prop:=JB syo Tryz.prog GT (ovD ro) o0 ro C
theorem gr {f:FuncId} {pt:List W→(W→Prop)→Prop} (h:FO ro f pt):FP ro f pt:=FnOK.grown _ h
theorem ZhV:∀args st v st',jhB ro args st=some (v,st')→ovD ro 42 args st=some (v,st'):=fun args st v st' h=>by
 have e1:JcO ovL 42 args st=none:=rfl;have e2:ovN ro 42 args st=none:=rfl;have e3:ovV ro 42 args st=jhB ro args st:=rfl;simp only [ovD,ovA,e1,ov2,e2,ov1,e3,h]
abbrev J5:=Bt→Int→(Int→Prop)→Prop
def jaA (A:J5) (us:List W) (k:W→Prop):Prop:=match us with
 | [.s a0,.i .u8 a1]=>A a0 a1 (fun r0=>k (.i .i64 r0))
 | _=>False
abbrev jc:=Bt→Int→(Int→Prop)→Prop
def jj (A:jc) (us:List W) (k:W→Prop):Prop:=match us with
 | [.s a0,.i .u8 a1]=>A a0 a1 (fun r0=>k (.i .i64 r0))
 | _=>False
theorem Jcu {A A2:jc} (h:FP ro 28 (jj A)) (hA:∀a0 a1 K,A2 a0 a1 K→A a0 a1 K):FP ro 28 (jj A2):=h.weak (by
 intro us k h;unfold jj at h ⊢;split at h
 ·exact hA _ _ _ h
 ·exact h.elim)
def Zbl (A60:J5) (a0:Bt) (a1:Int) (K:Int→Prop):Prop:=
 (A60 a0 a1 (fun y1=>K y1))
def Jbl (A60:J5):Zj sg:=tab [(60,con [none,none] (jaA A60))]
theorem jdh (A60:J5) (h60:FP ro 60 (jaA A60)) (o0:Nat→Prop):CP ro o0 (Jbl A60):=(Za (Zc h60) jd) o0
theorem Zdh (A60:J5) (a0:Bt) (a1:Int) (k:W→Prop):fnT syo Tryz.prog GT (Jbl A60) noL Tryz.f28.ntmps (za Tryz.f28) [none] Tryz.f28.results.toList [.s a0,.i .u8 a1] k=Zbl A60 a0 a1 (fun r0=>k (.i .i64 r0)):=by kernel_rfl
theorem JdJ (A60:J5) (h60:FP ro 60 (jaA A60)):FP ro 28 (jj (Zbl A60)):=(jx (rc:=[none]) (f:=28) (fn:=Tryz.f28) (c:=za Tryz.f28) (nt:=Tryz.f28.ntmps) (res:=Tryz.f28.results.toList) (C:=Jbl A60) (L:=noL) (fun _ _=>rfl) Tryz.func28 (by kernel_rfl) rfl rfl (jdh A60 h60) (Ji (l:=[]) (by kernel_rfl) Zd)).weak (by
 intro us k h;unfold jj at h;split at h
 ·rw [Zdh];exact h
 ·exact h.elim)
abbrev Zap:=Tok→(Tok→Prop)→Prop
def Zae (A:Zap) (us:List W) (k:W→Prop):Prop:=match us with
 | [.a [.i .u8 a0_0,.s a0_1,.i .i64 a0_2,.s a0_3,.b a0_4]]=>A (Tok.mk a0_0 a0_1 a0_2 a0_3 a0_4) (fun r0=>k (.a [.i .u8 r0.kind,.s r0.text,.i .i64 r0.num,.s r0.unit,.b r0.flag]))
 | _=>False
theorem Jdh {A A2:Zap} (h:FP ro 45 (Zae A)) (hA:∀a0 K,A2 a0 K→A a0 K):FP ro 45 (Zae A2):=h.weak (by
 intro us k h;unfold Zae at h ⊢;split at h
 ·exact hA _ _ h
 ·exact h.elim)
def JbF (a0:Tok) (K:Tok→Prop):Prop:=
 (((decide (a0.kind=1))=true→K (Tok.mk a0.kind a0.text (0:Int) ([]:Bt) false))∧((decide (a0.kind=1))=false→(((decide (a0.kind=2))=true→K (Tok.mk a0.kind a0.text (0:Int) ([]:Bt) false))∧((decide (a0.kind=2))=false→(((decide (a0.kind=3))=true→K (Tok.mk a0.kind a0.text (0:Int) ([]:Bt) false))∧((decide (a0.kind=3))=false→(((decide (a0.kind=5))=true→K (Tok.mk a0.kind a0.text (0:Int) ([]:Bt) false))∧((decide (a0.kind=5))=false→(((decide (a0.kind=7))=true→K (Tok.mk a0.kind a0.text (0:Int) ([]:Bt) false))∧((decide (a0.kind=7))=false→(((decide (a0.kind=9))=true→K (Tok.mk a0.kind a0.text (0:Int) ([]:Bt) false))∧((decide (a0.kind=9))=false→(((decide (a0.kind=4))=true→K (Tok.mk a0.kind a0.text (0:Int) ([]:Bt) a0.flag))∧((decide (a0.kind=4))=false→(((decide (a0.kind=10))=true→K (Tok.mk a0.kind ([]:Bt) a0.num ([]:Bt) a0.flag))∧((decide (a0.kind=10))=false→(((decide (a0.kind=11))=true→K (Tok.mk a0.kind ([]:Bt) a0.num ([]:Bt) false))∧((decide (a0.kind=11))=false→(((decide (a0.kind=12))=true→K (Tok.mk a0.kind ([]:Bt) a0.num a0.unit a0.flag))∧((decide (a0.kind=12))=false→K (Tok.mk a0.kind ([]:Bt) (0:Int) ([]:Bt) false)))))))))))))))))))))
def zcv:Zj sg:=tab []
theorem Jew (o0:Nat→Prop):CP ro o0 (zcv):=jd o0
theorem zex (a0:Tok) (k:W→Prop):fnT syo Tryz.prog GT (zcv) noL Tryz.f45.ntmps (za Tryz.f45) [none] Tryz.f45.results.toList [.a [.i .u8 a0.kind,.s a0.text,.i .i64 a0.num,.s a0.unit,.b a0.flag]] k=JbF a0 (fun r0=>k (.a [.i .u8 r0.kind,.s r0.text,.i .i64 r0.num,.s r0.unit,.b r0.flag])):=by kernel_rfl
theorem ze2:FP ro 45 (Zae (JbF)):=(jx (rc:=[none]) (f:=45) (fn:=Tryz.f45) (c:=za Tryz.f45) (nt:=Tryz.f45.ntmps) (res:=Tryz.f45.results.toList) (C:=zcv) (L:=noL) (fun _ _=>rfl) Tryz.func45 (by kernel_rfl) rfl rfl (Jew) (Ji (l:=[]) (by kernel_rfl) Zd)).weak (by
 intro us k h;unfold Zae at h;split at h
 ·skip;rename_i a0_0 a0_1 a0_2 a0_3 a0_4;rw [zex (Tok.mk a0_0 a0_1 a0_2 a0_3 a0_4) k];exact h
 ·exact h.elim)
abbrev JZ:=Bt→(Bool→Prop)→Prop
def ZT (A:JZ) (us:List W) (k:W→Prop):Prop:=match us with
 | [.s a0]=>A a0 (fun r0=>k (.b r0))
 | _=>False
theorem ZcG {A A2:JZ} (h:FP ro 27 (ZT A)) (hA:∀a0 K,A2 a0 K→A a0 K):FP ro 27 (ZT A2):=h.weak (by
 intro us k h;unfold ZT at h ⊢;split at h
 ·exact hA _ _ h
 ·exact h.elim)
def zbG (a0:Bt) (K:Bool→Prop):Prop:=
 K (!(a0==([]:Bt)))
def jbG:Zj sg:=tab []
theorem zdK (o0:Nat→Prop):CP ro o0 (jbG):=jd o0
theorem jdK (a0:Bt) (k:W→Prop):fnT syo Tryz.prog GT (jbG) noL Tryz.f27.ntmps (za Tryz.f27) [none] Tryz.f27.results.toList [.s a0] k=zbG a0 (fun r0=>k (.b r0)):=by kernel_rfl
theorem Jd5:FP ro 27 (ZT (zbG)):=(jx (rc:=[none]) (f:=27) (fn:=Tryz.f27) (c:=za Tryz.f27) (nt:=Tryz.f27.ntmps) (res:=Tryz.f27.results.toList) (C:=jbG) (L:=noL) (fun _ _=>rfl) Tryz.func27 (by kernel_rfl) rfl rfl (zdK) (Ji (l:=[]) (by kernel_rfl) Zd)).weak (by
 intro us k h;unfold ZT at h;split at h
 ·rw [jdK];exact h
 ·exact h.elim)
abbrev jm:=Bt→(Bool→Prop)→Prop
def zr (A:jm) (us:List W) (k:W→Prop):Prop:=match us with
 | [.s a0]=>A a0 (fun r0=>k (.b r0))
 | _=>False
theorem jcv {A A2:jm} (h:FP ro 76 (zr A)) (hA:∀a0 K,A2 a0 K→A a0 K):FP ro 76 (zr A2):=h.weak (by
 intro us k h;unfold zr at h ⊢;split at h
 ·exact hA _ _ h
 ·exact h.elim)
def zbm (A81:zc) (a0:Bt) (K:Bool→Prop):Prop:=
 (((!(a0==([]:Bt)))=true→((0≤(0:Int)∧(0:Int)<(a0.length:Int))∧(A81 ((a0.getD 0 0).toNat:Int) (fun y1=>K y1))))∧((!(a0==([]:Bt)))=false→K false))
def jbm (A81:zc):Zj sg:=tab [(81,con [none] (Zf A81))]
theorem zdi (A81:zc) (h81:FP ro 81 (Zf A81)) (o0:Nat→Prop):CP ro o0 (jbm A81):=(Za (Zc h81) jd) o0
theorem jdi (A81:zc) (a0:Bt) (k:W→Prop):fnT syo Tryz.prog GT (jbm A81) noL Tryz.f76.ntmps (za Tryz.f76) [none] Tryz.f76.results.toList [.s a0] k=zbm A81 a0 (fun r0=>k (.b r0)):=by kernel_rfl
theorem ZdK (A81:zc) (h81:FP ro 81 (Zf A81)):FP ro 76 (zr (zbm A81)):=(jx (rc:=[none]) (f:=76) (fn:=Tryz.f76) (c:=za Tryz.f76) (nt:=Tryz.f76.ntmps) (res:=Tryz.f76.results.toList) (C:=jbm A81) (L:=noL) (fun _ _=>rfl) Tryz.func76 (by kernel_rfl) rfl rfl (zdi A81 h81) (Ji (l:=[]) (by kernel_rfl) Zd)).weak (by
 intro us k h;unfold zr at h;split at h
 ·rw [jdi];exact h
 ·exact h.elim)
abbrev Jk:=Bt→(Bool→Prop)→Prop
def Zm (A:Jk) (us:List W) (k:W→Prop):Prop:=match us with
 | [.s a0]=>A a0 (fun r0=>k (.b r0))
 | _=>False
theorem jbu {A A2:Jk} (h:FP ro 77 (Zm A)) (hA:∀a0 K,A2 a0 K→A a0 K):FP ro 77 (Zm A2):=h.weak (by
 intro us k h;unfold Zm at h ⊢;split at h
 ·exact hA _ _ h
 ·exact h.elim)
def Jae (A92:jB) (A76:jm) (a0:Bt) (K:Bool→Prop):Prop:=
 (A92 a0 ([45]:Bt) (fun y1=>((y1=true→((0≤(1:Int)∧(1:Int)≤(a0.length:Int))∧(A76 (a0.drop 1) (fun y2=>K y2))))∧(y1=false→K false))))
def zaC (A92:jB) (A76:jm):Zj sg:=tab [(92,con [none,none] (JY A92)),(76,con [none] (zr A76))]
theorem Jb0 (A92:jB) (A76:jm) (h92:FP ro 92 (JY A92)) (h76:FP ro 76 (zr A76)) (o0:Nat→Prop):CP ro o0 (zaC A92 A76):=(Za (Zc h92) (Za (Zc h76) jd)) o0
theorem zb1 (A92:jB) (A76:jm) (a0:Bt) (k:W→Prop):fnT syo Tryz.prog GT (zaC A92 A76) noL Tryz.f77.ntmps (za Tryz.f77) [none] Tryz.f77.results.toList [.s a0] k=Jae A92 A76 a0 (fun r0=>k (.b r0)):=by kernel_rfl
theorem Zci (A92:jB) (A76:jm) (h92:FP ro 92 (JY A92)) (h76:FP ro 76 (zr A76)):FP ro 77 (Zm (Jae A92 A76)):=(jx (rc:=[none]) (f:=77) (fn:=Tryz.f77) (c:=za Tryz.f77) (nt:=Tryz.f77.ntmps) (res:=Tryz.f77.results.toList) (C:=zaC A92 A76) (L:=noL) (fun _ _=>rfl) Tryz.func77 (by kernel_rfl) rfl rfl (Jb0 A92 A76 h92 h76) (Ji (l:=[]) (by kernel_rfl) Zd)).weak (by
 intro us k h;unfold Zm at h;split at h
 ·rw [zb1];exact h
 ·exact h.elim)
abbrev zk:=Bt→(Int→Prop)→Prop
def Jn (A:zk) (us:List W) (k:W→Prop):Prop:=match us with
 | [.s a0]=>A a0 (fun r0=>k (.i .i64 r0))
 | _=>False
theorem Jci {A A2:zk} (h:FP ro 46 (Jn A)) (hA:∀a0 K,A2 a0 K→A a0 K):FP ro 46 (Jn A2):=h.weak (by
 intro us k h;unfold Jn at h ⊢;split at h
 ·exact hA _ _ h
 ·exact h.elim)
def za9 (A76:jm) (A77:Jk) (a0:Bt) (K:Int→Prop):Prop:=
 (((a0==([45]:Bt))=false→(A76 a0 (fun y1=>((y1=true→K (0:Int))∧(y1=false→(A77 a0 (fun y2=>((y2=true→K (1:Int))∧(y2=false→K (-1:Int))))))))))∧((a0==([45]:Bt))=true→K (0:Int)))
def ja9 (A76:jm) (A77:Jk):Zj sg:=tab [(76,con [none] (zr A76)),(77,con [none] (Zm A77))]
theorem JcY (A76:jm) (A77:Jk) (h76:FP ro 76 (zr A76)) (h77:FP ro 77 (Zm A77)) (o0:Nat→Prop):CP ro o0 (ja9 A76 A77):=(Za (Zc h76) (Za (Zc h77) jd)) o0
theorem zcZ (A76:jm) (A77:Jk) (a0:Bt) (k:W→Prop):fnT syo Tryz.prog GT (ja9 A76 A77) noL Tryz.f46.ntmps (za Tryz.f46) [none] Tryz.f46.results.toList [.s a0] k=za9 A76 A77 a0 (fun r0=>k (.i .i64 r0)):=by kernel_rfl
theorem Zdi (A76:jm) (A77:Jk) (h76:FP ro 76 (zr A76)) (h77:FP ro 77 (Zm A77)):FP ro 46 (Jn (za9 A76 A77)):=(jx (rc:=[none]) (f:=46) (fn:=Tryz.f46) (c:=za Tryz.f46) (nt:=Tryz.f46.ntmps) (res:=Tryz.f46.results.toList) (C:=ja9 A76 A77) (L:=noL) (fun _ _=>rfl) Tryz.func46 (by kernel_rfl) rfl rfl (JcY A76 A77 h76 h77) (Ji (l:=[]) (by kernel_rfl) Zd)).weak (by
 intro us k h;unfold Jn at h;split at h
 ·rw [zcZ];exact h
 ·exact h.elim)
abbrev ZU:=Bt→(Bool→Prop)→Prop
def ZN (A:ZU) (us:List W) (k:W→Prop):Prop:=match us with
 | [.s a0]=>A a0 (fun r0=>k (.b r0))
 | _=>False
theorem Zcv {A A2:ZU} (h:FP ro 47 (ZN A)) (hA:∀a0 K,A2 a0 K→A a0 K):FP ro 47 (ZN A2):=h.weak (by
 intro us k h;unfold ZN at h ⊢;split at h
 ·exact hA _ _ h
 ·exact h.elim)
def JaV (A78:Zb) (A79:zw) (A80:zm) (A81:zc) (A28:jc) (a0:Bt) (K:Bool→Prop):Prop:=
 (((decide ((a0.length:Int)≠(1:Int)))=true→K false)∧((decide ((a0.length:Int)≠(1:Int)))=false→((0≤(0:Int)∧(0:Int)<(a0.length:Int))∧(A78 ((a0.getD 0 0).toNat:Int) (fun y1=>(((!y1)=true→(A79 ((a0.getD 0 0).toNat:Int) (fun y2=>(((!y2)=true→(A80 ((a0.getD 0 0).toNat:Int) (fun y3=>(((!y3)=true→(A81 ((a0.getD 0 0).toNat:Int) (fun y4=>(((!y4)=true→(A28 ([12,13,58,59,44,91,93,40,41,123,125]:Bt) ((a0.getD 0 0).toNat:Int) (fun y5=>K (decide (y5<0)))))∧((!y4)=false→K false)))))∧((!y3)=false→K false)))))∧((!y2)=false→K false)))))∧((!y1)=false→K false)))))))
def Zbm (A78:Zb) (A79:zw) (A80:zm) (A81:zc) (A28:jc):Zj sg:=tab [(78,con [none] (ji A78)),(79,con [none] (JD A79)),(80,con [none] (Jq A80)),(81,con [none] (Zf A81)),(28,con [none,none] (jj A28))]
theorem Jdi (A78:Zb) (A79:zw) (A80:zm) (A81:zc) (A28:jc) (h78:FP ro 78 (ji A78)) (h79:FP ro 79 (JD A79)) (h80:FP ro 80 (Jq A80)) (h81:FP ro 81 (Zf A81)) (h28:FP ro 28 (jj A28)) (o0:Nat→Prop):CP ro o0 (Zbm A78 A79 A80 A81 A28):=(Za (Zc h78) (Za (Zc h79) (Za (Zc h80) (Za (Zc h81) (Za (Zc h28) jd))))) o0
theorem zdj (A78:Zb) (A79:zw) (A80:zm) (A81:zc) (A28:jc) (a0:Bt) (k:W→Prop):fnT syo Tryz.prog GT (Zbm A78 A79 A80 A81 A28) noL Tryz.f47.ntmps (za Tryz.f47) [none] Tryz.f47.results.toList [.s a0] k=JaV A78 A79 A80 A81 A28 a0 (fun r0=>k (.b r0)):=by kernel_rfl
theorem JdK (A78:Zb) (A79:zw) (A80:zm) (A81:zc) (A28:jc) (h78:FP ro 78 (ji A78)) (h79:FP ro 79 (JD A79)) (h80:FP ro 80 (Jq A80)) (h81:FP ro 81 (Zf A81)) (h28:FP ro 28 (jj A28)):FP ro 47 (ZN (JaV A78 A79 A80 A81 A28)):=(jx (rc:=[none]) (f:=47) (fn:=Tryz.f47) (c:=za Tryz.f47) (nt:=Tryz.f47.ntmps) (res:=Tryz.f47.results.toList) (C:=Zbm A78 A79 A80 A81 A28) (L:=noL) (fun _ _=>rfl) Tryz.func47 (by kernel_rfl) rfl rfl (Jdi A78 A79 A80 A81 A28 h78 h79 h80 h81 h28) (Ji (l:=[]) (by kernel_rfl) Zd)).weak (by
 intro us k h;unfold ZN at h;split at h
 ·rw [zdj];exact h
 ·exact h.elim)
abbrev ju:=Int→(Bool→Prop)→Prop
def jz (A:ju) (us:List W) (k:W→Prop):Prop:=match us with
 | [.i .i64 a0]=>A a0 (fun r0=>k (.b r0))
 | _=>False
theorem Jcv {A A2:ju} (h:FP ro 53 (jz A)) (hA:∀a0 K,A2 a0 K→A a0 K):FP ro 53 (jz A2):=h.weak (by
 intro us k h;unfold jz at h ⊢;split at h
 ·exact hA _ _ h
 ·exact h.elim)
def Jbm (a0:Int) (K:Bool→Prop):Prop:=
 ((1000:Int)≠0∧K (decide ((a0.tmod (1000:Int))=0)))
def zbn:Zj sg:=tab []
theorem jdj (o0:Nat→Prop):CP ro o0 (zbn):=jd o0
theorem Zdj (a0:Int) (k:W→Prop):fnT syo Tryz.prog GT (zbn) noL Tryz.f53.ntmps (za Tryz.f53) [none] Tryz.f53.results.toList [.i .i64 a0] k=Jbm a0 (fun r0=>k (.b r0)):=by kernel_rfl
theorem zdL:FP ro 53 (jz (Jbm)):=(jx (rc:=[none]) (f:=53) (fn:=Tryz.f53) (c:=za Tryz.f53) (nt:=Tryz.f53.ntmps) (res:=Tryz.f53.results.toList) (C:=zbn) (L:=noL) (fun _ _=>rfl) Tryz.func53 (by kernel_rfl) rfl rfl (jdj) (Ji (l:=[]) (by kernel_rfl) Zd)).weak (by
 intro us k h;unfold jz at h;split at h
 ·rw [Zdj];exact h
 ·exact h.elim)
abbrev ZO:=Tok→(Bool→Prop)→Prop
def ZH (A:ZO) (us:List W) (k:W→Prop):Prop:=match us with
 | [.a [.i .u8 a0_0,.s a0_1,.i .i64 a0_2,.s a0_3,.b a0_4]]=>A (Tok.mk a0_0 a0_1 a0_2 a0_3 a0_4) (fun r0=>k (.b r0))
 | _=>False
theorem zcj {A A2:ZO} (h:FP ro 48 (ZH A)) (hA:∀a0 K,A2 a0 K→A a0 K):FP ro 48 (ZH A2):=h.weak (by
 intro us k h;unfold ZH at h ⊢;split at h
 ·exact hA _ _ h
 ·exact h.elim)
def JaJ (A53:ju) (a0:Tok) (K:Bool→Prop):Prop:=
 (((decide (a0.num<(-1000000000000:Int)))=false→(((decide ((1000000000000:Int)<a0.num))=true→K false)∧((decide ((1000000000000:Int)<a0.num))=false→(((!a0.flag)=false→(A53 a0.num (fun y1=>K y1)))∧((!a0.flag)=true→K true)))))∧((decide (a0.num<(-1000000000000:Int)))=true→K false))
def Za9 (A53:ju):Zj sg:=tab [(53,con [none] (jz A53))]
theorem jcZ (A53:ju) (h53:FP ro 53 (jz A53)) (o0:Nat→Prop):CP ro o0 (Za9 A53):=(Za (Zc h53) jd) o0
theorem ZcZ (A53:ju) (a0:Tok) (k:W→Prop):fnT syo Tryz.prog GT (Za9 A53) noL Tryz.f48.ntmps (za Tryz.f48) [none] Tryz.f48.results.toList [.a [.i .u8 a0.kind,.s a0.text,.i .i64 a0.num,.s a0.unit,.b a0.flag]] k=JaJ A53 a0 (fun r0=>k (.b r0)):=by kernel_rfl
theorem Jdj (A53:ju) (h53:FP ro 53 (jz A53)):FP ro 48 (ZH (JaJ A53)):=(jx (rc:=[none]) (f:=48) (fn:=Tryz.f48) (c:=za Tryz.f48) (nt:=Tryz.f48.ntmps) (res:=Tryz.f48.results.toList) (C:=Za9 A53) (L:=noL) (fun _ _=>rfl) Tryz.func48 (by kernel_rfl) rfl rfl (jcZ A53 h53) (Ji (l:=[]) (by kernel_rfl) Zd)).weak (by
 intro us k h;unfold ZH at h;split at h
 ·skip;rename_i a0_0 a0_1 a0_2 a0_3 a0_4;rw [ZcZ A53 (Tok.mk a0_0 a0_1 a0_2 a0_3 a0_4) k];exact h
 ·exact h.elim)
abbrev zh:=Tok→(Bool→Prop)→Prop
def zo (A:zh) (us:List W) (k:W→Prop):Prop:=match us with
 | [.a [.i .u8 a0_0,.s a0_1,.i .i64 a0_2,.s a0_3,.b a0_4]]=>A (Tok.mk a0_0 a0_1 a0_2 a0_3 a0_4) (fun r0=>k (.b r0))
 | _=>False
theorem Zbu {A A2:zh} (h:FP ro 23 (zo A)) (hA:∀a0 K,A2 a0 K→A a0 K):FP ro 23 (zo A2):=h.weak (by
 intro us k h;unfold zo at h ⊢;split at h
 ·exact hA _ _ h
 ·exact h.elim)
def zaf (A45:Zap) (A28:jc) (A27:JZ) (A46:zk) (A47:ZU) (A48:ZO) (a0:Tok) (K:Bool→Prop):Prop:=
 (A45 (Tok.mk a0.kind a0.text a0.num a0.unit a0.flag) (fun y1=>(((!(decide (a0.kind=y1.kind)&&((a0.text==y1.text)&&(decide (a0.num=y1.num)&&((a0.unit==y1.unit)&&((a0.flag==y1.flag)&&true))))))=false→(A28 a0.text (0:Int) (fun y2=>(((decide ((0:Int)≤y2))=false→(A28 a0.unit (0:Int) (fun y3=>(((decide ((0:Int)≤y3))=true→K false)∧((decide ((0:Int)≤y3))=false→(((decide (a0.kind=1))=true→(A27 a0.text (fun y4=>K y4)))∧((decide (a0.kind=1))=false→(((decide (a0.kind=2))=true→(A27 a0.text (fun y5=>K y5)))∧((decide (a0.kind=2))=false→(((decide (a0.kind=3))=true→(A27 a0.text (fun y6=>K y6)))∧((decide (a0.kind=3))=false→(((decide (a0.kind=4))=true→(A27 a0.text (fun y7=>((y7=true→((a0.flag=false→(A46 a0.text (fun y8=>K (decide (y8≠(-1:Int))))))∧(a0.flag=true→K true)))∧(y7=false→K false)))))∧((decide (a0.kind=4))=false→(((decide (a0.kind=9))=true→(A47 a0.text (fun y9=>K y9)))∧((decide (a0.kind=9))=false→(((decide (a0.kind=10))=true→(A48 (Tok.mk a0.kind a0.text a0.num a0.unit a0.flag) (fun y10=>K y10)))∧((decide (a0.kind=10))=false→(((decide (a0.kind=11))=true→(A48 (Tok.mk a0.kind a0.text a0.num a0.unit a0.flag) (fun y11=>K y11)))∧((decide (a0.kind=11))=false→(((decide (a0.kind=12))=true→(A48 (Tok.mk a0.kind a0.text a0.num a0.unit a0.flag) (fun y12=>((y12=true→(A27 a0.unit (fun y13=>K y13)))∧(y12=false→K false)))))∧((decide (a0.kind=12))=false→(((decide (a0.kind=6))=true→K false)∧((decide (a0.kind=6))=false→(((decide (a0.kind=8))=true→K false)∧((decide (a0.kind=8))=false→(((decide ((1:Int)≤a0.kind))=true→K (decide (a0.kind≤24)))∧((decide ((1:Int)≤a0.kind))=false→K false)))))))))))))))))))))))))))∧((decide ((0:Int)≤y2))=true→K false)))))∧((!(decide (a0.kind=y1.kind)&&((a0.text==y1.text)&&(decide (a0.num=y1.num)&&((a0.unit==y1.unit)&&((a0.flag==y1.flag)&&true))))))=true→K false))))
def jaC (A45:Zap) (A28:jc) (A27:JZ) (A46:zk) (A47:ZU) (A48:ZO):Zj sg:=tab [(45,con [none] (Zae A45)),(28,con [none,none] (jj A28)),(27,con [none] (ZT A27)),(46,con [none] (Jn A46)),(47,con [none] (ZN A47)),(48,con [none] (ZH A48))]
theorem jb1 (A45:Zap) (A28:jc) (A27:JZ) (A46:zk) (A47:ZU) (A48:ZO) (h45:FP ro 45 (Zae A45)) (h28:FP ro 28 (jj A28)) (h27:FP ro 27 (ZT A27)) (h46:FP ro 46 (Jn A46)) (h47:FP ro 47 (ZN A47)) (h48:FP ro 48 (ZH A48)) (o0:Nat→Prop):CP ro o0 (jaC A45 A28 A27 A46 A47 A48):=(Za (Zc h45) (Za (Zc h28) (Za (Zc h27) (Za (Zc h46) (Za (Zc h47) (Za (Zc h48) jd)))))) o0
theorem Zb1 (A45:Zap) (A28:jc) (A27:JZ) (A46:zk) (A47:ZU) (A48:ZO) (a0:Tok) (k:W→Prop):fnT syo Tryz.prog GT (jaC A45 A28 A27 A46 A47 A48) noL Tryz.f23.ntmps (za Tryz.f23) [none] Tryz.f23.results.toList [.a [.i .u8 a0.kind,.s a0.text,.i .i64 a0.num,.s a0.unit,.b a0.flag]] k=zaf A45 A28 A27 A46 A47 A48 a0 (fun r0=>k (.b r0)):=by kernel_rfl
theorem jcj (A45:Zap) (A28:jc) (A27:JZ) (A46:zk) (A47:ZU) (A48:ZO) (h45:FP ro 45 (Zae A45)) (h28:FP ro 28 (jj A28)) (h27:FP ro 27 (ZT A27)) (h46:FP ro 46 (Jn A46)) (h47:FP ro 47 (ZN A47)) (h48:FP ro 48 (ZH A48)):FP ro 23 (zo (zaf A45 A28 A27 A46 A47 A48)):=(jx (rc:=[none]) (f:=23) (fn:=Tryz.f23) (c:=za Tryz.f23) (nt:=Tryz.f23.ntmps) (res:=Tryz.f23.results.toList) (C:=jaC A45 A28 A27 A46 A47 A48) (L:=noL) (fun _ _=>rfl) Tryz.func23 (by kernel_rfl) rfl rfl (jb1 A45 A28 A27 A46 A47 A48 h45 h28 h27 h46 h47 h48) (Ji (l:=[]) (by kernel_rfl) Zd)).weak (by
 intro us k h;unfold zo at h;split at h
 ·skip;rename_i a0_0 a0_1 a0_2 a0_3 a0_4;rw [Zb1 A45 A28 A27 A46 A47 A48 (Tok.mk a0_0 a0_1 a0_2 a0_3 a0_4) k];exact h
 ·exact h.elim)
abbrev jb:=Tok→(Bool→Prop)→Prop
def Jg (A:jb) (us:List W) (k:W→Prop):Prop:=match us with
 | [.a [.i .u8 a0_0,.s a0_1,.i .i64 a0_2,.s a0_3,.b a0_4]]=>A (Tok.mk a0_0 a0_1 a0_2 a0_3 a0_4) (fun r0=>k (.b r0))
 | _=>False
theorem ZbG {A A2:jb} (h:FP ro 38 (Jg A)) (hA:∀a0 K,A2 a0 K→A a0 K):FP ro 38 (Jg A2):=h.weak (by
 intro us k h;unfold Jg at h ⊢;split at h
 ·exact hA _ _ h
 ·exact h.elim)
def zaK (a0:Tok) (K:Bool→Prop):Prop:=
 (((decide (a0.kind=9))=true→K (a0.text==([92]:Bt)))∧((decide (a0.kind=9))=false→K false))
def jaK:Zj sg:=tab []
theorem Zcj (o0:Nat→Prop):CP ro o0 (jaK):=jd o0
theorem Jcj (a0:Tok) (k:W→Prop):fnT syo Tryz.prog GT (jaK) noL Tryz.f38.ntmps (za Tryz.f38) [none] Tryz.f38.results.toList [.a [.i .u8 a0.kind,.s a0.text,.i .i64 a0.num,.s a0.unit,.b a0.flag]] k=zaK a0 (fun r0=>k (.b r0)):=by kernel_rfl
theorem zcw:FP ro 38 (Jg (zaK)):=(jx (rc:=[none]) (f:=38) (fn:=Tryz.f38) (c:=za Tryz.f38) (nt:=Tryz.f38.ntmps) (res:=Tryz.f38.results.toList) (C:=jaK) (L:=noL) (fun _ _=>rfl) Tryz.func38 (by kernel_rfl) rfl rfl (Zcj) (Ji (l:=[]) (by kernel_rfl) Zd)).weak (by
 intro us k h;unfold Jg at h;split at h
 ·skip;rename_i a0_0 a0_1 a0_2 a0_3 a0_4;rw [Jcj (Tok.mk a0_0 a0_1 a0_2 a0_3 a0_4) k];exact h
 ·exact h.elim)
abbrev zd:=Tok→(Bool→Prop)→Prop
def zj (A:zd) (us:List W) (k:W→Prop):Prop:=match us with
 | [.a [.i .u8 a0_0,.s a0_1,.i .i64 a0_2,.s a0_3,.b a0_4]]=>A (Tok.mk a0_0 a0_1 a0_2 a0_3 a0_4) (fun r0=>k (.b r0))
 | _=>False
theorem jbn {A A2:zd} (h:FP ro 39 (zj A)) (hA:∀a0 K,A2 a0 K→A a0 K):FP ro 39 (zj A2):=h.weak (by
 intro us k h;unfold zj at h ⊢;split at h
 ·exact hA _ _ h
 ·exact h.elim)
def Z7 (A70:zZ) (a0:Tok) (K:Bool→Prop):Prop:=
 (((decide (a0.kind=2))=true→(A70 a0.text ([117,114,108]:Bt) (fun y1=>K y1)))∧((decide (a0.kind=2))=false→K false))
def zay (A70:zZ):Zj sg:=tab [(70,con [none,none] (Zah A70))]
theorem ZbP (A70:zZ) (h70:FP ro 70 (Zah A70)) (o0:Nat→Prop):CP ro o0 (zay A70):=(Za (Zc h70) jd) o0
theorem JbP (A70:zZ) (a0:Tok) (k:W→Prop):fnT syo Tryz.prog GT (zay A70) noL Tryz.f39.ntmps (za Tryz.f39) [none] Tryz.f39.results.toList [.a [.i .u8 a0.kind,.s a0.text,.i .i64 a0.num,.s a0.unit,.b a0.flag]] k=Z7 A70 a0 (fun r0=>k (.b r0)):=by kernel_rfl
theorem Jb1 (A70:zZ) (h70:FP ro 70 (Zah A70)):FP ro 39 (zj (Z7 A70)):=(jx (rc:=[none]) (f:=39) (fn:=Tryz.f39) (c:=za Tryz.f39) (nt:=Tryz.f39.ntmps) (res:=Tryz.f39.results.toList) (C:=zay A70) (L:=noL) (fun _ _=>rfl) Tryz.func39 (by kernel_rfl) rfl rfl (ZbP A70 h70) (Ji (l:=[]) (by kernel_rfl) Zd)).weak (by
 intro us k h;unfold zj at h;split at h
 ·skip;rename_i a0_0 a0_1 a0_2 a0_3 a0_4;rw [JbP A70 (Tok.mk a0_0 a0_1 a0_2 a0_3 a0_4) k];exact h
 ·exact h.elim)
abbrev zaX:=List Tok→Int→(Bool→Prop)→Prop
def ZaK (A:zaX) (us:List W) (k:W→Prop):Prop:=match us with
 | [.l Cd.tok a0,.i .u8 a1]=>A a0 a1 (fun r0=>k (.b r0))
 | _=>False
theorem zd6 {A A2:zaX} (h:FP ro 65 (ZaK A)) (hA:∀a0 a1 K,A2 a0 a1 K→A a0 a1 K):FP ro 65 (ZaK A2):=h.weak (by
 intro us k h;unfold ZaK at h ⊢;split at h
 ·exact hA _ _ _ h
 ·exact h.elim)
def jdL (a0:List Tok) (a1:Int) (K:Bool→Prop):Prop:=
 (((decide ((0:Int)<(a0.length:Int)))=true→((0≤(0:Int)∧(0:Int)<(a0.length:Int))∧K (decide (((a0.getD 0 (Ze Cd.tok)).kind)=a1))))∧((decide ((0:Int)<(a0.length:Int)))=false→K false))
def ZdL:Zj sg:=tab []
theorem Zfv (o0:Nat→Prop):CP ro o0 (ZdL):=jd o0
theorem Jfv (a0:List Tok) (a1:Int) (k:W→Prop):fnT syo Tryz.prog GT (ZdL) noL Tryz.f65.ntmps (za Tryz.f65) [none] Tryz.f65.results.toList [.l Cd.tok a0,.i .u8 a1] k=jdL a0 a1 (fun r0=>k (.b r0)):=by kernel_rfl
theorem Zga:FP ro 65 (ZaK (jdL)):=(jx (rc:=[none]) (f:=65) (fn:=Tryz.f65) (c:=za Tryz.f65) (nt:=Tryz.f65.ntmps) (res:=Tryz.f65.results.toList) (C:=ZdL) (L:=noL) (fun _ _=>rfl) Tryz.func65 (by kernel_rfl) rfl rfl (Zfv) (Ji (l:=[]) (by kernel_rfl) Zd)).weak (by
 intro us k h;unfold ZaK at h;split at h
 ·skip;rename_i a0 a1;rw [Jfv a0 a1 k];exact h
 ·exact h.elim)
abbrev jf:=Tok→List Tok→(Bool→Prop)→Prop
def jk (A:jf) (us:List W) (k:W→Prop):Prop:=match us with
 | [.a [.i .u8 a0_0,.s a0_1,.i .i64 a0_2,.s a0_3,.b a0_4],.l Cd.tok a1]=>A (Tok.mk a0_0 a0_1 a0_2 a0_3 a0_4) a1 (fun r0=>k (.b r0))
 | _=>False
theorem Ja9 {A A2:jf} (h:FP ro 32 (jk A)) (hA:∀a0 a1 K,A2 a0 a1 K→A a0 a1 K):FP ro 32 (jk A2):=h.weak (by
 intro us k h;unfold jk at h ⊢;split at h
 ·exact hA _ _ _ h
 ·exact h.elim)
def zW (A38:jb) (A65:zaX) (A39:zd) (a0:Tok) (a1:List Tok) (K:Bool→Prop):Prop:=
 (A38 (Tok.mk a0.kind a0.text a0.num a0.unit a0.flag) (fun y1=>((y1=true→(A65 a1 (13:Int) (fun y2=>K y2)))∧(y1=false→(A39 (Tok.mk a0.kind a0.text a0.num a0.unit a0.flag) (fun y3=>((y3=true→(A65 a1 (13:Int) (fun y4=>((y4=true→((0≤(1:Int)∧(1:Int)≤(a1.length:Int))∧(A65 (a1.drop 1) (5:Int) (fun y5=>K y5))))∧(y4=false→(A65 a1 (5:Int) (fun y6=>K y6)))))))∧(y3=false→K true))))))))
def Zaj (A38:jb) (A65:zaX) (A39:zd):Zj sg:=tab [(38,con [none] (Jg A38)),(65,con [some Cd.tok,none] (ZaK A65)),(39,con [none] (zj A39))]
theorem Jbu (A38:jb) (A65:zaX) (A39:zd) (h38:FP ro 38 (Jg A38)) (h65:FP ro 65 (ZaK A65)) (h39:FP ro 39 (zj A39)) (o0:Nat→Prop):CP ro o0 (Zaj A38 A65 A39):=(Za (Zc h38) (Za (Zc h65) (Za (Zc h39) jd))) o0
theorem zbv (A38:jb) (A65:zaX) (A39:zd) (a0:Tok) (a1:List Tok) (k:W→Prop):fnT syo Tryz.prog GT (Zaj A38 A65 A39) noL Tryz.f32.ntmps (za Tryz.f32) [none] Tryz.f32.results.toList [.a [.i .u8 a0.kind,.s a0.text,.i .i64 a0.num,.s a0.unit,.b a0.flag],.l Cd.tok a1] k=zW A38 A65 A39 a0 a1 (fun r0=>k (.b r0)):=by kernel_rfl
theorem JbG (A38:jb) (A65:zaX) (A39:zd) (h38:FP ro 38 (Jg A38)) (h65:FP ro 65 (ZaK A65)) (h39:FP ro 39 (zj A39)):FP ro 32 (jk (zW A38 A65 A39)):=(jx (rc:=[none]) (f:=32) (fn:=Tryz.f32) (c:=za Tryz.f32) (nt:=Tryz.f32.ntmps) (res:=Tryz.f32.results.toList) (C:=Zaj A38 A65 A39) (L:=noL) (fun _ _=>rfl) Tryz.func32 (by kernel_rfl) rfl rfl (Jbu A38 A65 A39 h38 h65 h39) (Ji (l:=[]) (by kernel_rfl) Zd)).weak (by
 intro us k h;unfold jk at h;split at h
 ·skip;rename_i a0_0 a0_1 a0_2 a0_3 a0_4 a1;rw [zbv A38 A65 A39 (Tok.mk a0_0 a0_1 a0_2 a0_3 a0_4) a1 k];exact h
 ·exact h.elim)
abbrev Jh:=List Tok→(Int→Prop)→Prop
def jv (A:Jh) (us:List W) (k:W→Prop):Prop:=match us with
 | [.l Cd.tok a0]=>A a0 (fun r0=>k (.i .i64 r0))
 | _=>False
theorem JcZ {A A2:Jh} (h:FP ro 14 (jv A)) (hA:∀a0 K,A2 a0 K→A a0 K):FP ro 14 (jv A2):=h.weak (by
 intro us k h;unfold jv at h ⊢;split at h
 ·exact hA _ _ h
 ·exact h.elim)
def JaK (A23:zh) (A32:jf):Nat→List Tok→List Tok→Int→Int→(Unit→Prop)→(Int→Prop)→Prop
 | 0,_,_,_,_,_,_=>False
 | n+1,x0,x8,x9,x10,Ke,Kr=>(((decide (x10<x9))=true→((0≤x10∧x10<(x8.length:Int))∧(A23 (Tok.mk ((x8.getD x10.toNat (Ze Cd.tok)).kind) ((x8.getD x10.toNat (Ze Cd.tok)).text) ((x8.getD x10.toNat (Ze Cd.tok)).num) ((x8.getD x10.toNat (Ze Cd.tok)).unit) ((x8.getD x10.toNat (Ze Cd.tok)).flag)) (fun y1=>(((!y1)=false→(I64 (x10+1)∧((0≤(x10+1)∧(x10+1)≤(x0.length:Int))∧(A32 (Tok.mk ((x8.getD x10.toNat (Ze Cd.tok)).kind) ((x8.getD x10.toNat (Ze Cd.tok)).text) ((x8.getD x10.toNat (Ze Cd.tok)).num) ((x8.getD x10.toNat (Ze Cd.tok)).unit) ((x8.getD x10.toNat (Ze Cd.tok)).flag)) (x0.drop (x10+1).toNat) (fun y2=>(((!y2)=true→Kr (8:Int))∧((!y2)=false→(I64 (x10+1)∧JaK A23 A32 n x0 x8 x9 (x10+1) Ke Kr))))))))∧((!y1)=true→Kr (8:Int)))))))∧((decide (x10<x9))=false→Ke ()))
def zb2 (A23:zh) (A32:jf) (a0:List Tok) (K:Int→Prop):Prop:=
 (((decide ((1500:Int)<(a0.length:Int)))=true→K (4:Int))∧((decide ((1500:Int)<(a0.length:Int)))=false→(∃m,JaK A23 A32 m a0 a0 (a0.length:Int) (0:Int) (fun _=>K (0:Int)) (fun y1=>K y1))))
def jbh (A23:zh) (A32:jf):Zj sg:=tab [(23,con [none] (zo A23)),(32,con [none,some Cd.tok] (jk A32))]
theorem Jcm (A23:zh) (A32:jf) (h23:FP ro 23 (zo A23)) (h32:FP ro 32 (jk A32)) (o0:Nat→Prop):CP ro o0 (jbh A23 A32):=(Za (Zc h23) (Za (Zc h32) jd)) o0
abbrev zba:Type:=((List (sg.Den Cd.tok))×(List (sg.Den Cd.tok))×Int×Int×Unit)
abbrev Yb_glue_Check_4:Type:=Unit
def ls_glue_Check_4:LS syo zba Yb_glue_Check_4:=⟨[],Jc 0 (zN syo Cd.tok) (Jc 8 (zN syo Cd.tok) (Jc 9 (Je syo .i64) (Jc 10 (Je syo .i64) (JC syo)))),zD syo,0,[]⟩
def le_glue_Check_4:LS syo Unit Unit:=⟨[],JC syo,zD syo,0,[]⟩
def lr_glue_Check_4:LS syo (Int×Unit) Unit:=⟨[],Jc 2 (Je syo .i64) (JC syo),zD syo,0,[]⟩
def zaL (A23:zh) (A32:jf) (n:Nat) (x:zba×Yb_glue_Check_4) (K:Ex→Z sg→Prop):Prop:=JaK A23 A32 n x.1.1 x.1.2.1 x.1.2.2.1 x.1.2.2.2.1 (fun _=>K (.exit 0) (le_glue_Check_4.put ((),()))) (fun y0=>K .ret (lr_glue_Check_4.put ((y0,()),())))
def jd6 (A23:zh) (A32:jf) (z:Z sg) (K:Ex→Z sg→Prop):Prop:=ls_glue_Check_4.get z (fun x=>∃n,zaL A23 A32 n x K)
def ZaF (A23:zh) (A32:jf):ZW sg:=jcm [(4,jd6 A23 A32)]
theorem JdL (A23:zh) (A32:jf) (n:Nat) (x:zba×Yb_glue_Check_4) (K:Ex→Z sg→Prop):zt (ls_glue_Check_4.put x) (fun z=>sC syo Tryz.prog GT (jbh A23 A32) (ZaF A23 A32) Tryz.f14.ntmps (zb (za Tryz.f14) 0) z (rnd ls_glue_Check_4 (czT 0 le_glue_Check_4 lr_glue_Check_4) (fun x=>zaL A23 A32 n x K) K))=zaL A23 A32 (n+1) x K:=by kernel_rfl
theorem zdM (A23:zh) (A32:jf) (z:Z sg) (K:Ex→Z sg→Prop):(ZaF A23 A32) (zb (za Tryz.f14) 0) z K=ls_glue_Check_4.get z (fun x=>∃n,zaL A23 A32 n x K):=by kernel_rfl
theorem jdM (A23:zh) (A32:jf) (h23:FP ro 23 (zo A23)) (h32:FP ro 32 (jk A32)):∀(o0:Nat→Prop) (B:Bs sg),B.E.length≤0→∀z K,(ZaF A23 A32) (zb (za Tryz.f14) 0) z K→Sx.Sem syo Tryz.prog GT (ovD ro) o0 ro Tryz.f14.ntmps B (.loop (zb (za Tryz.f14) 0)) z K:=
 ZD (Jcm A23 A32 h23 h32) (Ji (l:=[]) (by kernel_rfl) Zd) ls_glue_Check_4 (by decide) (czT 0 le_glue_Check_4 lr_glue_Check_4) (fun _ _ hB=>ZV 0 le_glue_Check_4 lr_glue_Check_4 (Nat.le_trans hB (by decide)) (Nat.le_trans hB (by decide))) (fun _ _ h=>h) (JdL A23 A32) (zdM A23 A32)
theorem jex (A23:zh) (A32:jf) (h23:FP ro 23 (zo A23)) (h32:FP ro 32 (jk A32)):jbV syo Tryz.prog GT (ovD ro) ro (ZaF A23 A32) 0 Tryz.f14.ntmps (za Tryz.f14):=Ji (l:=[(zb (za Tryz.f14) 0)]) (by kernel_rfl) (jD (jdM A23 A32 h23 h32) Zd)
theorem Zd6 (A23:zh) (A32:jf) (a0:List Tok) (k:W→Prop):fnT syo Tryz.prog GT (jbh A23 A32) (ZaF A23 A32) Tryz.f14.ntmps (za Tryz.f14) [none] Tryz.f14.results.toList [.l Cd.tok a0] k=zb2 A23 A32 a0 (fun r0=>k (.i .i64 r0)):=by kernel_rfl
theorem Zex (A23:zh) (A32:jf) (h23:FP ro 23 (zo A23)) (h32:FP ro 32 (jk A32)):FP ro 14 (jv (zb2 A23 A32)):=(jx (rc:=[none]) (f:=14) (fn:=Tryz.f14) (c:=za Tryz.f14) (nt:=Tryz.f14.ntmps) (res:=Tryz.f14.results.toList) (C:=jbh A23 A32) (L:=(ZaF A23 A32)) (fun _ _=>rfl) Tryz.func14 (by kernel_rfl) rfl rfl (Jcm A23 A32 h23 h32) (jex A23 A32 h23 h32)).weak (by
 intro us k h;unfold jv at h;split at h
 ·skip;rename_i a0;rw [Zd6 A23 A32 a0 k];exact h
 ·exact h.elim)
abbrev zn:=List Tok→Int→(Int→Prop)→Prop
def jy (A:zn) (us:List W) (k:W→Prop):Prop:=match us with
 | [.l Cd.tok a0,.i .i64 a1]=>A a0 a1 (fun r0=>k (.i .i64 r0))
 | _=>False
theorem zck {A A2:zn} (h:FP ro 20 (jy A)) (hA:∀a0 a1 K,A2 a0 a1 K→A a0 a1 K):FP ro 20 (jy A2):=h.weak (by
 intro us k h;unfold jy at h ⊢;split at h
 ·exact hA _ _ _ h
 ·exact h.elim)
def zam (A38:jb) (A39:zd):Nat→List Tok→Int→(Int→Prop)→Prop
 | 0,_,_,_=>False
 | n+1,x0,x1,Ke=>((0≤x1∧x1<(x0.length:Int))∧(((decide (((x0.getD x1.toNat (Ze Cd.tok)).kind)≠(5:Int)))=true→(I64 (x1+1)∧zam A38 A39 n x0 (x1+1) Ke))∧((decide (((x0.getD x1.toNat (Ze Cd.tok)).kind)≠(5:Int)))=false→Ke x1)))
def jba (A38:jb) (A39:zd) (a0:List Tok) (a1:Int) (K:Int→Prop):Prop:=
 ((0≤a1∧a1<(a0.length:Int))∧(A38 (Tok.mk ((a0.getD a1.toNat (Ze Cd.tok)).kind) ((a0.getD a1.toNat (Ze Cd.tok)).text) ((a0.getD a1.toNat (Ze Cd.tok)).num) ((a0.getD a1.toNat (Ze Cd.tok)).unit) ((a0.getD a1.toNat (Ze Cd.tok)).flag)) (fun y1=>((y1=true→(I64 (a1+2)∧K (a1+2)))∧(y1=false→((0≤a1∧a1<(a0.length:Int))∧(A39 (Tok.mk ((a0.getD a1.toNat (Ze Cd.tok)).kind) ((a0.getD a1.toNat (Ze Cd.tok)).text) ((a0.getD a1.toNat (Ze Cd.tok)).num) ((a0.getD a1.toNat (Ze Cd.tok)).unit) ((a0.getD a1.toNat (Ze Cd.tok)).flag)) (fun y2=>((y2=true→(∃m,zam A38 A39 m a0 a1 (fun y3=>(I64 (y3+1)∧K (y3+1)))))∧(y2=false→(I64 (a1+1)∧K (a1+1))))))))))))
def jaL (A38:jb) (A39:zd):Zj sg:=tab [(38,con [none] (Jg A38)),(39,con [none] (zj A39))]
theorem jbv (A38:jb) (A39:zd) (h38:FP ro 38 (Jg A38)) (h39:FP ro 39 (zj A39)) (o0:Nat→Prop):CP ro o0 (jaL A38 A39):=(Za (Zc h38) (Za (Zc h39) jd)) o0
abbrev ZaL:Type:=((List (sg.Den Cd.tok))×Int×Unit)
abbrev Yb_glue_pieceEnd_4:Type:=Unit
def ls_glue_pieceEnd_4:LS syo ZaL Yb_glue_pieceEnd_4:=⟨[],Jc 0 (zN syo Cd.tok) (Jc 1 (Je syo .i64) (JC syo)),zD syo,0,[]⟩
def le_glue_pieceEnd_4:LS syo (Int×Unit) Unit:=⟨[],Jc 1 (Je syo .i64) (JC syo),zD syo,0,[]⟩
def JaL:LS syo Unit Unit:=⟨[],JC syo,zD syo,0,[]⟩
def jam (A38:jb) (A39:zd) (n:Nat) (x:ZaL×Yb_glue_pieceEnd_4) (K:Ex→Z sg→Prop):Prop:=zam A38 A39 n x.1.1 x.1.2.1 (fun y0=>K (.exit 1) (le_glue_pieceEnd_4.put ((y0,()),())))
def zc0 (A38:jb) (A39:zd) (z:Z sg) (K:Ex→Z sg→Prop):Prop:=ls_glue_pieceEnd_4.get z (fun x=>∃n,jam A38 A39 n x K)
def zaa (A38:jb) (A39:zd):ZW sg:=jcm [(4,zc0 A38 A39)]
theorem JcG (A38:jb) (A39:zd) (n:Nat) (x:ZaL×Yb_glue_pieceEnd_4) (K:Ex→Z sg→Prop):zt (ls_glue_pieceEnd_4.put x) (fun z=>sC syo Tryz.prog GT (jaL A38 A39) (zaa A38 A39) Tryz.f20.ntmps (zb (za Tryz.f20) 0) z (rnd ls_glue_pieceEnd_4 (czT 1 le_glue_pieceEnd_4 JaL) (fun x=>jam A38 A39 n x K) K))=jam A38 A39 (n+1) x K:=by kernel_rfl
theorem zcH (A38:jb) (A39:zd) (z:Z sg) (K:Ex→Z sg→Prop):(zaa A38 A39) (zb (za Tryz.f20) 0) z K=ls_glue_pieceEnd_4.get z (fun x=>∃n,jam A38 A39 n x K):=by kernel_rfl
theorem jcH (A38:jb) (A39:zd) (h38:FP ro 38 (Jg A38)) (h39:FP ro 39 (zj A39)):∀(o0:Nat→Prop) (B:Bs sg),B.E.length≤0→∀z K,(zaa A38 A39) (zb (za Tryz.f20) 0) z K→Sx.Sem syo Tryz.prog GT (ovD ro) o0 ro Tryz.f20.ntmps B (.loop (zb (za Tryz.f20) 0)) z K:=
 ZD (jbv A38 A39 h38 h39) (Ji (l:=[]) (by kernel_rfl) Zd) ls_glue_pieceEnd_4 (by decide) (czT 1 le_glue_pieceEnd_4 JaL) (fun _ _ hB=>ZV 1 le_glue_pieceEnd_4 JaL (Nat.le_trans hB (by decide)) (Nat.le_trans hB (by decide))) (fun _ _ h=>h) (JcG A38 A39) (zcH A38 A39)
theorem zdk (A38:jb) (A39:zd) (h38:FP ro 38 (Jg A38)) (h39:FP ro 39 (zj A39)):jbV syo Tryz.prog GT (ovD ro) ro (zaa A38 A39) 0 Tryz.f20.ntmps (za Tryz.f20):=Ji (l:=[(zb (za Tryz.f20) 0)]) (by kernel_rfl) (jD (jcH A38 A39 h38 h39) Zd)
theorem jc0 (A38:jb) (A39:zd) (a0:List Tok) (a1:Int) (k:W→Prop):fnT syo Tryz.prog GT (jaL A38 A39) (zaa A38 A39) Tryz.f20.ntmps (za Tryz.f20) [none] Tryz.f20.results.toList [.l Cd.tok a0,.i .i64 a1] k=jba A38 A39 a0 a1 (fun r0=>k (.i .i64 r0)):=by kernel_rfl
theorem jdk (A38:jb) (A39:zd) (h38:FP ro 38 (Jg A38)) (h39:FP ro 39 (zj A39)):FP ro 20 (jy (jba A38 A39)):=(jx (rc:=[none]) (f:=20) (fn:=Tryz.f20) (c:=za Tryz.f20) (nt:=Tryz.f20.ntmps) (res:=Tryz.f20.results.toList) (C:=jaL A38 A39) (L:=(zaa A38 A39)) (fun _ _=>rfl) Tryz.func20 (by kernel_rfl) rfl rfl (jbv A38 A39 h38 h39) (zdk A38 A39 h38 h39)).weak (by
 intro us k h;unfold jy at h;split at h
 ·skip;rename_i a0 a1;rw [jc0 A38 A39 a0 a1 k];exact h
 ·exact h.elim)
abbrev JU:=List Tok→List Tok→(Bool→Prop)→Prop
def JN (A:JU) (us:List W) (k:W→Prop):Prop:=match us with
 | [.l Cd.tok a0,.l Cd.tok a1]=>A a0 a1 (fun r0=>k (.b r0))
 | _=>False
theorem jcw {A A2:JU} (h:FP ro 71 (JN A)) (hA:∀a0 a1 K,A2 a0 a1 K→A a0 a1 K):FP ro 71 (JN A2):=h.weak (by
 intro us k h;unfold JN at h ⊢;split at h
 ·exact hA _ _ _ h
 ·exact h.elim)
def zav:Nat→List Tok→List Tok→Int→Int→(Unit→Prop)→(Bool→Prop)→Prop
 | 0,_,_,_,_,_,_=>False
 | n+1,x0,x1,x12,x13,Ke,Kr=>(((decide (x13<x12))=true→((0≤x13∧x13<(x0.length:Int))∧((0≤x13∧x13<(x1.length:Int))∧(((!(decide ((x0.getD x13.toNat (Ze Cd.tok)).kind=(x1.getD x13.toNat (Ze Cd.tok)).kind)&&((((x0.getD x13.toNat (Ze Cd.tok)).text)==((x1.getD x13.toNat (Ze Cd.tok)).text))&&(decide ((x0.getD x13.toNat (Ze Cd.tok)).num=(x1.getD x13.toNat (Ze Cd.tok)).num)&&((((x0.getD x13.toNat (Ze Cd.tok)).unit)==((x1.getD x13.toNat (Ze Cd.tok)).unit))&&((((x0.getD x13.toNat (Ze Cd.tok)).flag)==((x1.getD x13.toNat (Ze Cd.tok)).flag))&&true))))))=true→Kr false)∧((!(decide ((x0.getD x13.toNat (Ze Cd.tok)).kind=(x1.getD x13.toNat (Ze Cd.tok)).kind)&&((((x0.getD x13.toNat (Ze Cd.tok)).text)==((x1.getD x13.toNat (Ze Cd.tok)).text))&&(decide ((x0.getD x13.toNat (Ze Cd.tok)).num=(x1.getD x13.toNat (Ze Cd.tok)).num)&&((((x0.getD x13.toNat (Ze Cd.tok)).unit)==((x1.getD x13.toNat (Ze Cd.tok)).unit))&&((((x0.getD x13.toNat (Ze Cd.tok)).flag)==((x1.getD x13.toNat (Ze Cd.tok)).flag))&&true))))))=false→(I64 (x13+1)∧zav n x0 x1 x12 (x13+1) Ke Kr))))))∧((decide (x13<x12))=false→Ke ()))
def Zbn (a0:List Tok) (a1:List Tok) (K:Bool→Prop):Prop:=
 (((decide ((a0.length:Int)≠(a1.length:Int)))=true→K false)∧((decide ((a0.length:Int)≠(a1.length:Int)))=false→(∃m,zav m a0 a1 (a0.length:Int) (0:Int) (fun _=>K true) (fun y1=>K y1))))
def zaW:Zj sg:=tab []
theorem ZbN (o0:Nat→Prop):CP ro o0 (zaW):=jd o0
abbrev jaT:Type:=((List (sg.Den Cd.tok))×(List (sg.Den Cd.tok))×Int×Int×Unit)
abbrev Yb_slices_Equal_4:Type:=Unit
def ls_slices_Equal_4:LS syo jaT Yb_slices_Equal_4:=⟨[],Jc 0 (zN syo Cd.tok) (Jc 1 (zN syo Cd.tok) (Jc 12 (Je syo .i64) (Jc 13 (Je syo .i64) (JC syo)))),zD syo,0,[]⟩
def le_slices_Equal_4:LS syo Unit Unit:=⟨[],JC syo,zD syo,0,[]⟩
def lr_slices_Equal_4:LS syo (Bool×Unit) Unit:=⟨[],Jc 4 (Zn syo) (JC syo),zD syo,0,[]⟩
def jav (n:Nat) (x:jaT×Yb_slices_Equal_4) (K:Ex→Z sg→Prop):Prop:=zav n x.1.1 x.1.2.1 x.1.2.2.1 x.1.2.2.2.1 (fun _=>K (.exit 0) (le_slices_Equal_4.put ((),()))) (fun y0=>K .ret (lr_slices_Equal_4.put ((y0,()),())))
def Zdk (z:Z sg) (K:Ex→Z sg→Prop):Prop:=ls_slices_Equal_4.get z (fun x=>∃n,jav n x K)
def Zai:ZW sg:=jcm [(4,Zdk)]
theorem Zc0 (n:Nat) (x:jaT×Yb_slices_Equal_4) (K:Ex→Z sg→Prop):zt (ls_slices_Equal_4.put x) (fun z=>sC syo Tryz.prog GT (zaW) (Zai) Tryz.f71.ntmps (zb (za Tryz.f71) 0) z (rnd ls_slices_Equal_4 (czT 0 le_slices_Equal_4 lr_slices_Equal_4) (fun x=>jav n x K) K))=jav (n+1) x K:=by kernel_rfl
theorem Jc0 (z:Z sg) (K:Ex→Z sg→Prop):(Zai) (zb (za Tryz.f71) 0) z K=ls_slices_Equal_4.get z (fun x=>∃n,jav n x K):=by kernel_rfl
theorem zc1:∀(o0:Nat→Prop) (B:Bs sg),B.E.length≤0→∀z K,(Zai) (zb (za Tryz.f71) 0) z K→Sx.Sem syo Tryz.prog GT (ovD ro) o0 ro Tryz.f71.ntmps B (.loop (zb (za Tryz.f71) 0)) z K:=
 ZD (ZbN) (Ji (l:=[]) (by kernel_rfl) Zd) ls_slices_Equal_4 (by decide) (czT 0 le_slices_Equal_4 lr_slices_Equal_4) (fun _ _ hB=>ZV 0 le_slices_Equal_4 lr_slices_Equal_4 (Nat.le_trans hB (by decide)) (Nat.le_trans hB (by decide))) (fun _ _ h=>h) (Zc0) (Jc0)
theorem ZdM:jbV syo Tryz.prog GT (ovD ro) ro (Zai) 0 Tryz.f71.ntmps (za Tryz.f71):=Ji (l:=[(zb (za Tryz.f71) 0)]) (by kernel_rfl) (jD (zc1) Zd)
theorem Jdk (a0:List Tok) (a1:List Tok) (k:W→Prop):fnT syo Tryz.prog GT (zaW) (Zai) Tryz.f71.ntmps (za Tryz.f71) [none] Tryz.f71.results.toList [.l Cd.tok a0,.l Cd.tok a1] k=Zbn a0 a1 (fun r0=>k (.b r0)):=by kernel_rfl
theorem JdM:FP ro 71 (JN (Zbn)):=(jx (rc:=[none]) (f:=71) (fn:=Tryz.f71) (c:=za Tryz.f71) (nt:=Tryz.f71.ntmps) (res:=Tryz.f71.results.toList) (C:=zaW) (L:=(Zai)) (fun _ _=>rfl) Tryz.func71 (by kernel_rfl) rfl rfl (ZbN) (ZdM)).weak (by
 intro us k h;unfold JN at h;split at h
 ·skip;rename_i a0 a1;rw [Jdk a0 a1 k];exact h
 ·exact h.elim)
abbrev Zk:=Bt→List Tok→(Bool→Prop)→Prop
def Jt (A:Zk) (us:List W) (k:W→Prop):Prop:=match us with
 | [.s a0,.l Cd.tok a1]=>A a0 a1 (fun r0=>k (.b r0))
 | _=>False
theorem jck {A A2:Zk} (h:FP ro 41 (Jt A)) (hA:∀a0 a1 K,A2 a0 a1 K→A a0 a1 K):FP ro 41 (Jt A2):=h.weak (by
 intro us k h;unfold Jt at h ⊢;split at h
 ·exact hA _ _ _ h
 ·exact h.elim)
def Zba (A18:ZC) (A71:JU) (a0:Bt) (a1:List Tok) (K:Bool→Prop):Prop:=
 (A18 a0 (fun y1 y2=>(((decide (y2=0))=true→(A71 y1 a1 (fun y3=>K y3)))∧((decide (y2=0))=false→K false))))
def Jba (A18:ZC) (A71:JU):Zj sg:=tab [(18,con [none] (ZZ A18)),(71,con [some Cd.tok,some Cd.tok] (JN A71))]
theorem jc1 (A18:ZC) (A71:JU) (h18:FP ro 18 (ZZ A18)) (h71:FP ro 71 (JN A71)) (o0:Nat→Prop):CP ro o0 (Jba A18 A71):=(Za (Zc h18) (Za (Zc h71) jd)) o0
theorem Zc1 (A18:ZC) (A71:JU) (a0:Bt) (a1:List Tok) (k:W→Prop):fnT syo Tryz.prog GT (Jba A18 A71) noL Tryz.f41.ntmps (za Tryz.f41) [none] Tryz.f41.results.toList [.s a0,.l Cd.tok a1] k=Zba A18 A71 a0 a1 (fun r0=>k (.b r0)):=by kernel_rfl
theorem zdl (A18:ZC) (A71:JU) (h18:FP ro 18 (ZZ A18)) (h71:FP ro 71 (JN A71)):FP ro 41 (Jt (Zba A18 A71)):=(jx (rc:=[none]) (f:=41) (fn:=Tryz.f41) (c:=za Tryz.f41) (nt:=Tryz.f41.ntmps) (res:=Tryz.f41.results.toList) (C:=Jba A18 A71) (L:=noL) (fun _ _=>rfl) Tryz.func41 (by kernel_rfl) rfl rfl (jc1 A18 A71 h18 h71) (Ji (l:=[]) (by kernel_rfl) Zd)).weak (by
 intro us k h;unfold Jt at h;split at h
 ·skip;rename_i a0 a1;rw [Zc1 A18 A71 a0 a1 k];exact h
 ·exact h.elim)
end Go.Proofs.YtmnegokadegioaaGreatDoor
