/-
 Shapes of tokens, followed. Nothing is claimed here.
-/
import Derived.Test.YtmnegokadegioaaGreatDoorTh
import Derived.Test.YtmnegokadegioaaGreatDoorSa2
namespace Go.Proofs.YtmnegokadegioaaGreatDoor
open Go.Vm Go.Sx Go.RowKit
variable {ro:Nat}
def syo:Sy sg:=sy.grown fun c=>match c with|Cd.u8=>true|_=>false
abbrev FP (ro:Nat) (f:FuncId) (pt:List W→(W→Prop)→Prop):Prop:=FnOK syo Tryz.prog GT (ovD ro) ro f pt
abbrev CP (ro:Nat) (o0:Nat→Prop) (C:jj sg):Prop:=zB syo Tryz.prog GT (ovD ro) o0 ro C
theorem gr {f:FuncId} {pt:List W→(W→Prop)→Prop} (h:FO ro f pt):FP ro f pt:=FnOK.grown _ h
theorem zhS:∀args st v st',zhy ro args st=some (v,st')→ovD ro 42 args st=some (v,st'):=fun args st v st' h=>by
 have e1:zcM ovL 42 args st=none:=rfl;have e2:ovN ro 42 args st=none:=rfl;have e3:ovV ro 42 args st=zhy ro args st:=rfl;simp only [ovD,ovA,e1,ov2,e2,ov1,e3,h]
abbrev Z0:=Bt→Int→(Int→Prop)→Prop
def zay (A:Z0) (us:List W) (k:W→Prop):Prop:=match us with
 | [.s a0,.i .u8 a1]=>A a0 a1 (fun r0=>k (.i .i64 r0))
 | _=>False
abbrev jc:=Bt→Int→(Int→Prop)→Prop
def zj (A:jc) (us:List W) (k:W→Prop):Prop:=match us with
 | [.s a0,.i .u8 a1]=>A a0 a1 (fun r0=>k (.i .i64 r0))
 | _=>False
theorem Zcr {A A2:jc} (h:FP ro 28 (zj A)) (hA:∀a0 a1 K,A2 a0 a1 K→A a0 a1 K):FP ro 28 (zj A2):=h.weak (by
 intro us k h;unfold zj at h ⊢;split at h
 ·exact hA _ _ _ h
 ·exact h.elim)
def zbj (A60:Z0) (a0:Bt) (a1:Int) (K:Int→Prop):Prop:=
 (A60 a0 a1 (fun y1=>K y1))
def jbj (A60:Z0):jj sg:=tab [(60,con [none,none] (zay A60))]
theorem Zdf (A60:Z0) (h60:FP ro 60 (zay A60)) (o0:Nat→Prop):CP ro o0 (jbj A60):=(Za (Zc h60) Zd) o0
theorem Jdf (A60:Z0) (a0:Bt) (a1:Int) (k:W→Prop):fnT syo Tryz.prog GT (jbj A60) noL Tryz.f28.ntmps (za Tryz.f28) [none] Tryz.f28.results.toList [.s a0,.i .u8 a1] k=zbj A60 a0 a1 (fun r0=>k (.i .i64 r0)):=by kernel_rfl
theorem ZdH (A60:Z0) (h60:FP ro 60 (zay A60)):FP ro 28 (zj (zbj A60)):=(zx (rc:=[none]) (f:=28) (fn:=Tryz.f28) (c:=za Tryz.f28) (nt:=Tryz.f28.ntmps) (res:=Tryz.f28.results.toList) (C:=jbj A60) (L:=noL) (fun _ _=>rfl) Tryz.func28 (by kernel_rfl) rfl rfl (Zdf A60 h60) (Ji (l:=[]) (by kernel_rfl) je)).weak (by
 intro us k h;unfold zj at h;split at h
 ·rw [Jdf];exact h
 ·exact h.elim)
abbrev Zan:=Tok→(Tok→Prop)→Prop
def Zac (A:Zan) (us:List W) (k:W→Prop):Prop:=match us with
 | [.a [.i .u8 a0_0,.s a0_1,.i .i64 a0_2,.s a0_3,.b a0_4]]=>A (Tok.mk a0_0 a0_1 a0_2 a0_3 a0_4) (fun r0=>k (.a [.i .u8 r0.kind,.s r0.text,.i .i64 r0.num,.s r0.unit,.b r0.flag]))
 | _=>False
theorem zdg {A A2:Zan} (h:FP ro 45 (Zac A)) (hA:∀a0 K,A2 a0 K→A a0 K):FP ro 45 (Zac A2):=h.weak (by
 intro us k h;unfold Zac at h ⊢;split at h
 ·exact hA _ _ h
 ·exact h.elim)
def JbC (a0:Tok) (K:Tok→Prop):Prop:=
 (((decide (a0.kind=1))=true→K (Tok.mk a0.kind a0.text (0:Int) ([]:Bt) false))∧((decide (a0.kind=1))=false→(((decide (a0.kind=2))=true→K (Tok.mk a0.kind a0.text (0:Int) ([]:Bt) false))∧((decide (a0.kind=2))=false→(((decide (a0.kind=3))=true→K (Tok.mk a0.kind a0.text (0:Int) ([]:Bt) false))∧((decide (a0.kind=3))=false→(((decide (a0.kind=5))=true→K (Tok.mk a0.kind a0.text (0:Int) ([]:Bt) false))∧((decide (a0.kind=5))=false→(((decide (a0.kind=7))=true→K (Tok.mk a0.kind a0.text (0:Int) ([]:Bt) false))∧((decide (a0.kind=7))=false→(((decide (a0.kind=9))=true→K (Tok.mk a0.kind a0.text (0:Int) ([]:Bt) false))∧((decide (a0.kind=9))=false→(((decide (a0.kind=4))=true→K (Tok.mk a0.kind a0.text (0:Int) ([]:Bt) a0.flag))∧((decide (a0.kind=4))=false→(((decide (a0.kind=10))=true→K (Tok.mk a0.kind ([]:Bt) a0.num ([]:Bt) a0.flag))∧((decide (a0.kind=10))=false→(((decide (a0.kind=11))=true→K (Tok.mk a0.kind ([]:Bt) a0.num ([]:Bt) false))∧((decide (a0.kind=11))=false→(((decide (a0.kind=12))=true→K (Tok.mk a0.kind ([]:Bt) a0.num a0.unit a0.flag))∧((decide (a0.kind=12))=false→K (Tok.mk a0.kind ([]:Bt) (0:Int) ([]:Bt) false)))))))))))))))))))))
def Jcr:jj sg:=tab []
theorem Jet (o0:Nat→Prop):CP ro o0 (Jcr):=Zd o0
theorem zeu (a0:Tok) (k:W→Prop):fnT syo Tryz.prog GT (Jcr) noL Tryz.f45.ntmps (za Tryz.f45) [none] Tryz.f45.results.toList [.a [.i .u8 a0.kind,.s a0.text,.i .i64 a0.num,.s a0.unit,.b a0.flag]] k=JbC a0 (fun r0=>k (.a [.i .u8 r0.kind,.s r0.text,.i .i64 r0.num,.s r0.unit,.b r0.flag])):=by kernel_rfl
theorem ze0:FP ro 45 (Zac (JbC)):=(zx (rc:=[none]) (f:=45) (fn:=Tryz.f45) (c:=za Tryz.f45) (nt:=Tryz.f45.ntmps) (res:=Tryz.f45.results.toList) (C:=Jcr) (L:=noL) (fun _ _=>rfl) Tryz.func45 (by kernel_rfl) rfl rfl (Jet) (Ji (l:=[]) (by kernel_rfl) je)).weak (by
 intro us k h;unfold Zac at h;split at h
 ·skip;rename_i a0_0 a0_1 a0_2 a0_3 a0_4;rw [zeu (Tok.mk a0_0 a0_1 a0_2 a0_3 a0_4) k];exact h
 ·exact h.elim)
abbrev JX:=Bt→(Bool→Prop)→Prop
def jS (A:JX) (us:List W) (k:W→Prop):Prop:=match us with
 | [.s a0]=>A a0 (fun r0=>k (.b r0))
 | _=>False
theorem zcE {A A2:JX} (h:FP ro 27 (jS A)) (hA:∀a0 K,A2 a0 K→A a0 K):FP ro 27 (jS A2):=h.weak (by
 intro us k h;unfold jS at h ⊢;split at h
 ·exact hA _ _ h
 ·exact h.elim)
def zbD (a0:Bt) (K:Bool→Prop):Prop:=
 K (!(a0==([]:Bt)))
def jbD:jj sg:=tab []
theorem JdH (o0:Nat→Prop):CP ro o0 (jbD):=Zd o0
theorem zdI (a0:Bt) (k:W→Prop):fnT syo Tryz.prog GT (jbD) noL Tryz.f27.ntmps (za Tryz.f27) [none] Tryz.f27.results.toList [.s a0] k=zbD a0 (fun r0=>k (.b r0)):=by kernel_rfl
theorem Zd2:FP ro 27 (jS (zbD)):=(zx (rc:=[none]) (f:=27) (fn:=Tryz.f27) (c:=za Tryz.f27) (nt:=Tryz.f27.ntmps) (res:=Tryz.f27.results.toList) (C:=jbD) (L:=noL) (fun _ _=>rfl) Tryz.func27 (by kernel_rfl) rfl rfl (JdH) (Ji (l:=[]) (by kernel_rfl) je)).weak (by
 intro us k h;unfold jS at h;split at h
 ·rw [zdI];exact h
 ·exact h.elim)
abbrev zm:=Bt→(Bool→Prop)→Prop
def Jq (A:zm) (us:List W) (k:W→Prop):Prop:=match us with
 | [.s a0]=>A a0 (fun r0=>k (.b r0))
 | _=>False
theorem zcs {A A2:zm} (h:FP ro 76 (Jq A)) (hA:∀a0 K,A2 a0 K→A a0 K):FP ro 76 (Jq A2):=h.weak (by
 intro us k h;unfold Jq at h ⊢;split at h
 ·exact hA _ _ h
 ·exact h.elim)
def Zbj (A81:zc) (a0:Bt) (K:Bool→Prop):Prop:=
 (((!(a0==([]:Bt)))=true→((0≤(0:Int)∧(0:Int)<(a0.length:Int))∧(A81 ((a0.getD 0 0).toNat:Int) (fun y1=>K y1))))∧((!(a0==([]:Bt)))=false→K false))
def Jbj (A81:zc):jj sg:=tab [(81,con [none] (Zf A81))]
theorem jdg (A81:zc) (h81:FP ro 81 (Zf A81)) (o0:Nat→Prop):CP ro o0 (Jbj A81):=(Za (Zc h81) Zd) o0
theorem Zdg (A81:zc) (a0:Bt) (k:W→Prop):fnT syo Tryz.prog GT (Jbj A81) noL Tryz.f76.ntmps (za Tryz.f76) [none] Tryz.f76.results.toList [.s a0] k=Zbj A81 a0 (fun r0=>k (.b r0)):=by kernel_rfl
theorem jdI (A81:zc) (h81:FP ro 81 (Zf A81)):FP ro 76 (Jq (Zbj A81)):=(zx (rc:=[none]) (f:=76) (fn:=Tryz.f76) (c:=za Tryz.f76) (nt:=Tryz.f76.ntmps) (res:=Tryz.f76.results.toList) (C:=Jbj A81) (L:=noL) (fun _ _=>rfl) Tryz.func76 (by kernel_rfl) rfl rfl (jdg A81 h81) (Ji (l:=[]) (by kernel_rfl) je)).weak (by
 intro us k h;unfold Jq at h;split at h
 ·rw [Zdg];exact h
 ·exact h.elim)
abbrev Zk:=Bt→(Bool→Prop)→Prop
def jm (A:Zk) (us:List W) (k:W→Prop):Prop:=match us with
 | [.s a0]=>A a0 (fun r0=>k (.b r0))
 | _=>False
theorem Jbr {A A2:Zk} (h:FP ro 77 (jm A)) (hA:∀a0 K,A2 a0 K→A a0 K):FP ro 77 (jm A2):=h.weak (by
 intro us k h;unfold jm at h ⊢;split at h
 ·exact hA _ _ h
 ·exact h.elim)
def Jac (A92:ZA) (A76:zm) (a0:Bt) (K:Bool→Prop):Prop:=
 (A92 a0 ([45]:Bt) (fun y1=>((y1=true→((0≤(1:Int)∧(1:Int)≤(a0.length:Int))∧(A76 (a0.drop 1) (fun y2=>K y2))))∧(y1=false→K false))))
def Jaz (A92:ZA) (A76:zm):jj sg:=tab [(92,con [none,none] (zX A92)),(76,con [none] (Jq A76))]
theorem JbX (A92:ZA) (A76:zm) (h92:FP ro 92 (zX A92)) (h76:FP ro 76 (Jq A76)) (o0:Nat→Prop):CP ro o0 (Jaz A92 A76):=(Za (Zc h92) (Za (Zc h76) Zd)) o0
theorem zbY (A92:ZA) (A76:zm) (a0:Bt) (k:W→Prop):fnT syo Tryz.prog GT (Jaz A92 A76) noL Tryz.f77.ntmps (za Tryz.f77) [none] Tryz.f77.results.toList [.s a0] k=Jac A92 A76 a0 (fun r0=>k (.b r0)):=by kernel_rfl
theorem Zcf (A92:ZA) (A76:zm) (h92:FP ro 92 (zX A92)) (h76:FP ro 76 (Jq A76)):FP ro 77 (jm (Jac A92 A76)):=(zx (rc:=[none]) (f:=77) (fn:=Tryz.f77) (c:=za Tryz.f77) (nt:=Tryz.f77.ntmps) (res:=Tryz.f77.results.toList) (C:=Jaz A92 A76) (L:=noL) (fun _ _=>rfl) Tryz.func77 (by kernel_rfl) rfl rfl (JbX A92 A76 h92 h76) (Ji (l:=[]) (by kernel_rfl) je)).weak (by
 intro us k h;unfold jm at h;split at h
 ·rw [zbY];exact h
 ·exact h.elim)
abbrev Jj:=Bt→(Int→Prop)→Prop
def Zn (A:Jj) (us:List W) (k:W→Prop):Prop:=match us with
 | [.s a0]=>A a0 (fun r0=>k (.i .i64 r0))
 | _=>False
theorem Jcf {A A2:Jj} (h:FP ro 46 (Zn A)) (hA:∀a0 K,A2 a0 K→A a0 K):FP ro 46 (Zn A2):=h.weak (by
 intro us k h;unfold Zn at h ⊢;split at h
 ·exact hA _ _ h
 ·exact h.elim)
def Ja6 (A76:zm) (A77:Zk) (a0:Bt) (K:Int→Prop):Prop:=
 (((a0==([45]:Bt))=false→(A76 a0 (fun y1=>((y1=true→K (0:Int))∧(y1=false→(A77 a0 (fun y2=>((y2=true→K (1:Int))∧(y2=false→K (-1:Int))))))))))∧((a0==([45]:Bt))=true→K (0:Int)))
def za7 (A76:zm) (A77:Zk):jj sg:=tab [(76,con [none] (Jq A76)),(77,con [none] (jm A77))]
theorem zcW (A76:zm) (A77:Zk) (h76:FP ro 76 (Jq A76)) (h77:FP ro 77 (jm A77)) (o0:Nat→Prop):CP ro o0 (za7 A76 A77):=(Za (Zc h76) (Za (Zc h77) Zd)) o0
theorem jcW (A76:zm) (A77:Zk) (a0:Bt) (k:W→Prop):fnT syo Tryz.prog GT (za7 A76 A77) noL Tryz.f46.ntmps (za Tryz.f46) [none] Tryz.f46.results.toList [.s a0] k=Ja6 A76 A77 a0 (fun r0=>k (.i .i64 r0)):=by kernel_rfl
theorem Jdg (A76:zm) (A77:Zk) (h76:FP ro 76 (Jq A76)) (h77:FP ro 77 (jm A77)):FP ro 46 (Zn (Ja6 A76 A77)):=(zx (rc:=[none]) (f:=46) (fn:=Tryz.f46) (c:=za Tryz.f46) (nt:=Tryz.f46.ntmps) (res:=Tryz.f46.results.toList) (C:=za7 A76 A77) (L:=noL) (fun _ _=>rfl) Tryz.func46 (by kernel_rfl) rfl rfl (zcW A76 A77 h76 h77) (Ji (l:=[]) (by kernel_rfl) je)).weak (by
 intro us k h;unfold Zn at h;split at h
 ·rw [jcW];exact h
 ·exact h.elim)
abbrev zT:=Bt→(Bool→Prop)→Prop
def jM (A:zT) (us:List W) (k:W→Prop):Prop:=match us with
 | [.s a0]=>A a0 (fun r0=>k (.b r0))
 | _=>False
theorem jcs {A A2:zT} (h:FP ro 47 (jM A)) (hA:∀a0 K,A2 a0 K→A a0 K):FP ro 47 (jM A2):=h.weak (by
 intro us k h;unfold jM at h ⊢;split at h
 ·exact hA _ _ h
 ·exact h.elim)
def JaT (A78:Zb) (A79:Zv) (A80:Jl) (A81:zc) (A28:jc) (a0:Bt) (K:Bool→Prop):Prop:=
 (((decide ((a0.length:Int)≠(1:Int)))=true→K false)∧((decide ((a0.length:Int)≠(1:Int)))=false→((0≤(0:Int)∧(0:Int)<(a0.length:Int))∧(A78 ((a0.getD 0 0).toNat:Int) (fun y1=>(((!y1)=true→(A79 ((a0.getD 0 0).toNat:Int) (fun y2=>(((!y2)=true→(A80 ((a0.getD 0 0).toNat:Int) (fun y3=>(((!y3)=true→(A81 ((a0.getD 0 0).toNat:Int) (fun y4=>(((!y4)=true→(A28 ([12,13,58,59,44,91,93,40,41,123,125]:Bt) ((a0.getD 0 0).toNat:Int) (fun y5=>K (decide (y5<0)))))∧((!y4)=false→K false)))))∧((!y3)=false→K false)))))∧((!y2)=false→K false)))))∧((!y1)=false→K false)))))))
def zbk (A78:Zb) (A79:Zv) (A80:Jl) (A81:zc) (A28:jc):jj sg:=tab [(78,con [none] (zi A78)),(79,con [none] (zC A79)),(80,con [none] (Zq A80)),(81,con [none] (Zf A81)),(28,con [none,none] (zj A28))]
theorem zdh (A78:Zb) (A79:Zv) (A80:Jl) (A81:zc) (A28:jc) (h78:FP ro 78 (zi A78)) (h79:FP ro 79 (zC A79)) (h80:FP ro 80 (Zq A80)) (h81:FP ro 81 (Zf A81)) (h28:FP ro 28 (zj A28)) (o0:Nat→Prop):CP ro o0 (zbk A78 A79 A80 A81 A28):=(Za (Zc h78) (Za (Zc h79) (Za (Zc h80) (Za (Zc h81) (Za (Zc h28) Zd))))) o0
theorem jdh (A78:Zb) (A79:Zv) (A80:Jl) (A81:zc) (A28:jc) (a0:Bt) (k:W→Prop):fnT syo Tryz.prog GT (zbk A78 A79 A80 A81 A28) noL Tryz.f47.ntmps (za Tryz.f47) [none] Tryz.f47.results.toList [.s a0] k=JaT A78 A79 A80 A81 A28 a0 (fun r0=>k (.b r0)):=by kernel_rfl
theorem ZdI (A78:Zb) (A79:Zv) (A80:Jl) (A81:zc) (A28:jc) (h78:FP ro 78 (zi A78)) (h79:FP ro 79 (zC A79)) (h80:FP ro 80 (Zq A80)) (h81:FP ro 81 (Zf A81)) (h28:FP ro 28 (zj A28)):FP ro 47 (jM (JaT A78 A79 A80 A81 A28)):=(zx (rc:=[none]) (f:=47) (fn:=Tryz.f47) (c:=za Tryz.f47) (nt:=Tryz.f47.ntmps) (res:=Tryz.f47.results.toList) (C:=zbk A78 A79 A80 A81 A28) (L:=noL) (fun _ _=>rfl) Tryz.func47 (by kernel_rfl) rfl rfl (zdh A78 A79 A80 A81 A28 h78 h79 h80 h81 h28) (Ji (l:=[]) (by kernel_rfl) je)).weak (by
 intro us k h;unfold jM at h;split at h
 ·rw [jdh];exact h
 ·exact h.elim)
abbrev zu:=Int→(Bool→Prop)→Prop
def Jy (A:zu) (us:List W) (k:W→Prop):Prop:=match us with
 | [.i .i64 a0]=>A a0 (fun r0=>k (.b r0))
 | _=>False
theorem Zcs {A A2:zu} (h:FP ro 53 (Jy A)) (hA:∀a0 K,A2 a0 K→A a0 K):FP ro 53 (Jy A2):=h.weak (by
 intro us k h;unfold Jy at h ⊢;split at h
 ·exact hA _ _ h
 ·exact h.elim)
def jbk (a0:Int) (K:Bool→Prop):Prop:=
 ((1000:Int)≠0∧K (decide ((a0.tmod (1000:Int))=0)))
def Zbk:jj sg:=tab []
theorem Zdh (o0:Nat→Prop):CP ro o0 (Zbk):=Zd o0
theorem Jdh (a0:Int) (k:W→Prop):fnT syo Tryz.prog GT (Zbk) noL Tryz.f53.ntmps (za Tryz.f53) [none] Tryz.f53.results.toList [.i .i64 a0] k=jbk a0 (fun r0=>k (.b r0)):=by kernel_rfl
theorem JdI:FP ro 53 (Jy (jbk)):=(zx (rc:=[none]) (f:=53) (fn:=Tryz.f53) (c:=za Tryz.f53) (nt:=Tryz.f53.ntmps) (res:=Tryz.f53.results.toList) (C:=Zbk) (L:=noL) (fun _ _=>rfl) Tryz.func53 (by kernel_rfl) rfl rfl (Zdh) (Ji (l:=[]) (by kernel_rfl) je)).weak (by
 intro us k h;unfold Jy at h;split at h
 ·rw [Jdh];exact h
 ·exact h.elim)
abbrev jN:=Tok→(Bool→Prop)→Prop
def JG (A:jN) (us:List W) (k:W→Prop):Prop:=match us with
 | [.a [.i .u8 a0_0,.s a0_1,.i .i64 a0_2,.s a0_3,.b a0_4]]=>A (Tok.mk a0_0 a0_1 a0_2 a0_3 a0_4) (fun r0=>k (.b r0))
 | _=>False
theorem zcg {A A2:jN} (h:FP ro 48 (JG A)) (hA:∀a0 K,A2 a0 K→A a0 K):FP ro 48 (JG A2):=h.weak (by
 intro us k h;unfold JG at h ⊢;split at h
 ·exact hA _ _ h
 ·exact h.elim)
def zaI (A53:zu) (a0:Tok) (K:Bool→Prop):Prop:=
 (((decide (a0.num<(-1000000000000:Int)))=false→(((decide ((1000000000000:Int)<a0.num))=true→K false)∧((decide ((1000000000000:Int)<a0.num))=false→(((!a0.flag)=false→(A53 a0.num (fun y1=>K y1)))∧((!a0.flag)=true→K true)))))∧((decide (a0.num<(-1000000000000:Int)))=true→K false))
def ja7 (A53:zu):jj sg:=tab [(53,con [none] (Jy A53))]
theorem ZcW (A53:zu) (h53:FP ro 53 (Jy A53)) (o0:Nat→Prop):CP ro o0 (ja7 A53):=(Za (Zc h53) Zd) o0
theorem JcW (A53:zu) (a0:Tok) (k:W→Prop):fnT syo Tryz.prog GT (ja7 A53) noL Tryz.f48.ntmps (za Tryz.f48) [none] Tryz.f48.results.toList [.a [.i .u8 a0.kind,.s a0.text,.i .i64 a0.num,.s a0.unit,.b a0.flag]] k=zaI A53 a0 (fun r0=>k (.b r0)):=by kernel_rfl
theorem zdi (A53:zu) (h53:FP ro 53 (Jy A53)):FP ro 48 (JG (zaI A53)):=(zx (rc:=[none]) (f:=48) (fn:=Tryz.f48) (c:=za Tryz.f48) (nt:=Tryz.f48.ntmps) (res:=Tryz.f48.results.toList) (C:=ja7 A53) (L:=noL) (fun _ _=>rfl) Tryz.func48 (by kernel_rfl) rfl rfl (ZcW A53 h53) (Ji (l:=[]) (by kernel_rfl) je)).weak (by
 intro us k h;unfold JG at h;split at h
 ·skip;rename_i a0_0 a0_1 a0_2 a0_3 a0_4;rw [JcW A53 (Tok.mk a0_0 a0_1 a0_2 a0_3 a0_4) k];exact h
 ·exact h.elim)
abbrev zh:=Tok→(Bool→Prop)→Prop
def Jn (A:zh) (us:List W) (k:W→Prop):Prop:=match us with
 | [.a [.i .u8 a0_0,.s a0_1,.i .i64 a0_2,.s a0_3,.b a0_4]]=>A (Tok.mk a0_0 a0_1 a0_2 a0_3 a0_4) (fun r0=>k (.b r0))
 | _=>False
theorem zbs {A A2:zh} (h:FP ro 23 (Jn A)) (hA:∀a0 K,A2 a0 K→A a0 K):FP ro 23 (Jn A2):=h.weak (by
 intro us k h;unfold Jn at h ⊢;split at h
 ·exact hA _ _ h
 ·exact h.elim)
def zad (A45:Zan) (A28:jc) (A27:JX) (A46:Jj) (A47:zT) (A48:jN) (a0:Tok) (K:Bool→Prop):Prop:=
 (A45 (Tok.mk a0.kind a0.text a0.num a0.unit a0.flag) (fun y1=>(((!(decide (a0.kind=y1.kind)&&((a0.text==y1.text)&&(decide (a0.num=y1.num)&&((a0.unit==y1.unit)&&((a0.flag==y1.flag)&&true))))))=false→(A28 a0.text (0:Int) (fun y2=>(((decide ((0:Int)≤y2))=false→(A28 a0.unit (0:Int) (fun y3=>(((decide ((0:Int)≤y3))=true→K false)∧((decide ((0:Int)≤y3))=false→(((decide (a0.kind=1))=true→(A27 a0.text (fun y4=>K y4)))∧((decide (a0.kind=1))=false→(((decide (a0.kind=2))=true→(A27 a0.text (fun y5=>K y5)))∧((decide (a0.kind=2))=false→(((decide (a0.kind=3))=true→(A27 a0.text (fun y6=>K y6)))∧((decide (a0.kind=3))=false→(((decide (a0.kind=4))=true→(A27 a0.text (fun y7=>((y7=true→((a0.flag=false→(A46 a0.text (fun y8=>K (decide (y8≠(-1:Int))))))∧(a0.flag=true→K true)))∧(y7=false→K false)))))∧((decide (a0.kind=4))=false→(((decide (a0.kind=9))=true→(A47 a0.text (fun y9=>K y9)))∧((decide (a0.kind=9))=false→(((decide (a0.kind=10))=true→(A48 (Tok.mk a0.kind a0.text a0.num a0.unit a0.flag) (fun y10=>K y10)))∧((decide (a0.kind=10))=false→(((decide (a0.kind=11))=true→(A48 (Tok.mk a0.kind a0.text a0.num a0.unit a0.flag) (fun y11=>K y11)))∧((decide (a0.kind=11))=false→(((decide (a0.kind=12))=true→(A48 (Tok.mk a0.kind a0.text a0.num a0.unit a0.flag) (fun y12=>((y12=true→(A27 a0.unit (fun y13=>K y13)))∧(y12=false→K false)))))∧((decide (a0.kind=12))=false→(((decide (a0.kind=6))=true→K false)∧((decide (a0.kind=6))=false→(((decide (a0.kind=8))=true→K false)∧((decide (a0.kind=8))=false→(((decide ((1:Int)≤a0.kind))=true→K (decide (a0.kind≤24)))∧((decide ((1:Int)≤a0.kind))=false→K false)))))))))))))))))))))))))))∧((decide ((0:Int)≤y2))=true→K false)))))∧((!(decide (a0.kind=y1.kind)&&((a0.text==y1.text)&&(decide (a0.num=y1.num)&&((a0.unit==y1.unit)&&((a0.flag==y1.flag)&&true))))))=true→K false))))
def zaA (A45:Zan) (A28:jc) (A27:JX) (A46:Jj) (A47:zT) (A48:jN):jj sg:=tab [(45,con [none] (Zac A45)),(28,con [none,none] (zj A28)),(27,con [none] (jS A27)),(46,con [none] (Zn A46)),(47,con [none] (jM A47)),(48,con [none] (JG A48))]
theorem jbY (A45:Zan) (A28:jc) (A27:JX) (A46:Jj) (A47:zT) (A48:jN) (h45:FP ro 45 (Zac A45)) (h28:FP ro 28 (zj A28)) (h27:FP ro 27 (jS A27)) (h46:FP ro 46 (Zn A46)) (h47:FP ro 47 (jM A47)) (h48:FP ro 48 (JG A48)) (o0:Nat→Prop):CP ro o0 (zaA A45 A28 A27 A46 A47 A48):=(Za (Zc h45) (Za (Zc h28) (Za (Zc h27) (Za (Zc h46) (Za (Zc h47) (Za (Zc h48) Zd)))))) o0
theorem ZbY (A45:Zan) (A28:jc) (A27:JX) (A46:Jj) (A47:zT) (A48:jN) (a0:Tok) (k:W→Prop):fnT syo Tryz.prog GT (zaA A45 A28 A27 A46 A47 A48) noL Tryz.f23.ntmps (za Tryz.f23) [none] Tryz.f23.results.toList [.a [.i .u8 a0.kind,.s a0.text,.i .i64 a0.num,.s a0.unit,.b a0.flag]] k=zad A45 A28 A27 A46 A47 A48 a0 (fun r0=>k (.b r0)):=by kernel_rfl
theorem jcg (A45:Zan) (A28:jc) (A27:JX) (A46:Jj) (A47:zT) (A48:jN) (h45:FP ro 45 (Zac A45)) (h28:FP ro 28 (zj A28)) (h27:FP ro 27 (jS A27)) (h46:FP ro 46 (Zn A46)) (h47:FP ro 47 (jM A47)) (h48:FP ro 48 (JG A48)):FP ro 23 (Jn (zad A45 A28 A27 A46 A47 A48)):=(zx (rc:=[none]) (f:=23) (fn:=Tryz.f23) (c:=za Tryz.f23) (nt:=Tryz.f23.ntmps) (res:=Tryz.f23.results.toList) (C:=zaA A45 A28 A27 A46 A47 A48) (L:=noL) (fun _ _=>rfl) Tryz.func23 (by kernel_rfl) rfl rfl (jbY A45 A28 A27 A46 A47 A48 h45 h28 h27 h46 h47 h48) (Ji (l:=[]) (by kernel_rfl) je)).weak (by
 intro us k h;unfold Jn at h;split at h
 ·skip;rename_i a0_0 a0_1 a0_2 a0_3 a0_4;rw [ZbY A45 A28 A27 A46 A47 A48 (Tok.mk a0_0 a0_1 a0_2 a0_3 a0_4) k];exact h
 ·exact h.elim)
abbrev jb:=Tok→(Bool→Prop)→Prop
def Jg (A:jb) (us:List W) (k:W→Prop):Prop:=match us with
 | [.a [.i .u8 a0_0,.s a0_1,.i .i64 a0_2,.s a0_3,.b a0_4]]=>A (Tok.mk a0_0 a0_1 a0_2 a0_3 a0_4) (fun r0=>k (.b r0))
 | _=>False
theorem ZbD {A A2:jb} (h:FP ro 38 (Jg A)) (hA:∀a0 K,A2 a0 K→A a0 K):FP ro 38 (Jg A2):=h.weak (by
 intro us k h;unfold Jg at h ⊢;split at h
 ·exact hA _ _ h
 ·exact h.elim)
def jaI (a0:Tok) (K:Bool→Prop):Prop:=
 (((decide (a0.kind=9))=true→K (a0.text==([92]:Bt)))∧((decide (a0.kind=9))=false→K false))
def ZaI:jj sg:=tab []
theorem Zcg (o0:Nat→Prop):CP ro o0 (ZaI):=Zd o0
theorem Jcg (a0:Tok) (k:W→Prop):fnT syo Tryz.prog GT (ZaI) noL Tryz.f38.ntmps (za Tryz.f38) [none] Tryz.f38.results.toList [.a [.i .u8 a0.kind,.s a0.text,.i .i64 a0.num,.s a0.unit,.b a0.flag]] k=jaI a0 (fun r0=>k (.b r0)):=by kernel_rfl
theorem Jcs:FP ro 38 (Jg (jaI)):=(zx (rc:=[none]) (f:=38) (fn:=Tryz.f38) (c:=za Tryz.f38) (nt:=Tryz.f38.ntmps) (res:=Tryz.f38.results.toList) (C:=ZaI) (L:=noL) (fun _ _=>rfl) Tryz.func38 (by kernel_rfl) rfl rfl (Zcg) (Ji (l:=[]) (by kernel_rfl) je)).weak (by
 intro us k h;unfold Jg at h;split at h
 ·skip;rename_i a0_0 a0_1 a0_2 a0_3 a0_4;rw [Jcg (Tok.mk a0_0 a0_1 a0_2 a0_3 a0_4) k];exact h
 ·exact h.elim)
abbrev zd:=Tok→(Bool→Prop)→Prop
def Zi (A:zd) (us:List W) (k:W→Prop):Prop:=match us with
 | [.a [.i .u8 a0_0,.s a0_1,.i .i64 a0_2,.s a0_3,.b a0_4]]=>A (Tok.mk a0_0 a0_1 a0_2 a0_3 a0_4) (fun r0=>k (.b r0))
 | _=>False
theorem Jbk {A A2:zd} (h:FP ro 39 (Zi A)) (hA:∀a0 K,A2 a0 K→A a0 K):FP ro 39 (Zi A2):=h.weak (by
 intro us k h;unfold Zi at h ⊢;split at h
 ·exact hA _ _ h
 ·exact h.elim)
def Z5 (A70:jX) (a0:Tok) (K:Bool→Prop):Prop:=
 (((decide (a0.kind=2))=true→(A70 a0.text ([117,114,108]:Bt) (fun y1=>K y1)))∧((decide (a0.kind=2))=false→K false))
def Zav (A70:jX):jj sg:=tab [(70,con [none,none] (Zaf A70))]
theorem JbM (A70:jX) (h70:FP ro 70 (Zaf A70)) (o0:Nat→Prop):CP ro o0 (Zav A70):=(Za (Zc h70) Zd) o0
theorem zbN (A70:jX) (a0:Tok) (k:W→Prop):fnT syo Tryz.prog GT (Zav A70) noL Tryz.f39.ntmps (za Tryz.f39) [none] Tryz.f39.results.toList [.a [.i .u8 a0.kind,.s a0.text,.i .i64 a0.num,.s a0.unit,.b a0.flag]] k=Z5 A70 a0 (fun r0=>k (.b r0)):=by kernel_rfl
theorem JbY (A70:jX) (h70:FP ro 70 (Zaf A70)):FP ro 39 (Zi (Z5 A70)):=(zx (rc:=[none]) (f:=39) (fn:=Tryz.f39) (c:=za Tryz.f39) (nt:=Tryz.f39.ntmps) (res:=Tryz.f39.results.toList) (C:=Zav A70) (L:=noL) (fun _ _=>rfl) Tryz.func39 (by kernel_rfl) rfl rfl (JbM A70 h70) (Ji (l:=[]) (by kernel_rfl) je)).weak (by
 intro us k h;unfold Zi at h;split at h
 ·skip;rename_i a0_0 a0_1 a0_2 a0_3 a0_4;rw [zbN A70 (Tok.mk a0_0 a0_1 a0_2 a0_3 a0_4) k];exact h
 ·exact h.elim)
abbrev zaV:=List Tok→Int→(Bool→Prop)→Prop
def JaI (A:zaV) (us:List W) (k:W→Prop):Prop:=match us with
 | [.l Cd.tok a0,.i .u8 a1]=>A a0 a1 (fun r0=>k (.b r0))
 | _=>False
theorem Jd2 {A A2:zaV} (h:FP ro 65 (JaI A)) (hA:∀a0 a1 K,A2 a0 a1 K→A a0 a1 K):FP ro 65 (JaI A2):=h.weak (by
 intro us k h;unfold JaI at h ⊢;split at h
 ·exact hA _ _ _ h
 ·exact h.elim)
def zdJ (a0:List Tok) (a1:Int) (K:Bool→Prop):Prop:=
 (((decide ((0:Int)<(a0.length:Int)))=true→((0≤(0:Int)∧(0:Int)<(a0.length:Int))∧K (decide (((a0.getD 0 (Ze Cd.tok)).kind)=a1))))∧((decide ((0:Int)<(a0.length:Int)))=false→K false))
def jdJ:jj sg:=tab []
theorem jfr (o0:Nat→Prop):CP ro o0 (jdJ):=Zd o0
theorem Zfr (a0:List Tok) (a1:Int) (k:W→Prop):fnT syo Tryz.prog GT (jdJ) noL Tryz.f65.ntmps (za Tryz.f65) [none] Tryz.f65.results.toList [.l Cd.tok a0,.i .u8 a1] k=zdJ a0 a1 (fun r0=>k (.b r0)):=by kernel_rfl
theorem zf8:FP ro 65 (JaI (zdJ)):=(zx (rc:=[none]) (f:=65) (fn:=Tryz.f65) (c:=za Tryz.f65) (nt:=Tryz.f65.ntmps) (res:=Tryz.f65.results.toList) (C:=jdJ) (L:=noL) (fun _ _=>rfl) Tryz.func65 (by kernel_rfl) rfl rfl (jfr) (Ji (l:=[]) (by kernel_rfl) je)).weak (by
 intro us k h;unfold JaI at h;split at h
 ·skip;rename_i a0 a1;rw [Zfr a0 a1 k];exact h
 ·exact h.elim)
abbrev jf:=Tok→List Tok→(Bool→Prop)→Prop
def zk (A:jf) (us:List W) (k:W→Prop):Prop:=match us with
 | [.a [.i .u8 a0_0,.s a0_1,.i .i64 a0_2,.s a0_3,.b a0_4],.l Cd.tok a1]=>A (Tok.mk a0_0 a0_1 a0_2 a0_3 a0_4) a1 (fun r0=>k (.b r0))
 | _=>False
theorem Za7 {A A2:jf} (h:FP ro 32 (zk A)) (hA:∀a0 a1 K,A2 a0 a1 K→A a0 a1 K):FP ro 32 (zk A2):=h.weak (by
 intro us k h;unfold zk at h ⊢;split at h
 ·exact hA _ _ _ h
 ·exact h.elim)
def zU (A38:jb) (A65:zaV) (A39:zd) (a0:Tok) (a1:List Tok) (K:Bool→Prop):Prop:=
 (A38 (Tok.mk a0.kind a0.text a0.num a0.unit a0.flag) (fun y1=>((y1=true→(A65 a1 (13:Int) (fun y2=>K y2)))∧(y1=false→(A39 (Tok.mk a0.kind a0.text a0.num a0.unit a0.flag) (fun y3=>((y3=true→(A65 a1 (13:Int) (fun y4=>((y4=true→((0≤(1:Int)∧(1:Int)≤(a1.length:Int))∧(A65 (a1.drop 1) (5:Int) (fun y5=>K y5))))∧(y4=false→(A65 a1 (5:Int) (fun y6=>K y6)))))))∧(y3=false→K true))))))))
def jah (A38:jb) (A65:zaV) (A39:zd):jj sg:=tab [(38,con [none] (Jg A38)),(65,con [some Cd.tok,none] (JaI A65)),(39,con [none] (Zi A39))]
theorem jbs (A38:jb) (A65:zaV) (A39:zd) (h38:FP ro 38 (Jg A38)) (h65:FP ro 65 (JaI A65)) (h39:FP ro 39 (Zi A39)) (o0:Nat→Prop):CP ro o0 (jah A38 A65 A39):=(Za (Zc h38) (Za (Zc h65) (Za (Zc h39) Zd))) o0
theorem Zbs (A38:jb) (A65:zaV) (A39:zd) (a0:Tok) (a1:List Tok) (k:W→Prop):fnT syo Tryz.prog GT (jah A38 A65 A39) noL Tryz.f32.ntmps (za Tryz.f32) [none] Tryz.f32.results.toList [.a [.i .u8 a0.kind,.s a0.text,.i .i64 a0.num,.s a0.unit,.b a0.flag],.l Cd.tok a1] k=zU A38 A65 A39 a0 a1 (fun r0=>k (.b r0)):=by kernel_rfl
theorem JbD (A38:jb) (A65:zaV) (A39:zd) (h38:FP ro 38 (Jg A38)) (h65:FP ro 65 (JaI A65)) (h39:FP ro 39 (Zi A39)):FP ro 32 (zk (zU A38 A65 A39)):=(zx (rc:=[none]) (f:=32) (fn:=Tryz.f32) (c:=za Tryz.f32) (nt:=Tryz.f32.ntmps) (res:=Tryz.f32.results.toList) (C:=jah A38 A65 A39) (L:=noL) (fun _ _=>rfl) Tryz.func32 (by kernel_rfl) rfl rfl (jbs A38 A65 A39 h38 h65 h39) (Ji (l:=[]) (by kernel_rfl) je)).weak (by
 intro us k h;unfold zk at h;split at h
 ·skip;rename_i a0_0 a0_1 a0_2 a0_3 a0_4 a1;rw [Zbs A38 A65 A39 (Tok.mk a0_0 a0_1 a0_2 a0_3 a0_4) a1 k];exact h
 ·exact h.elim)
abbrev zv:=List Tok→(Int→Prop)→Prop
def ZN (A:zv) (us:List W) (k:W→Prop):Prop:=match us with
 | [.l Cd.tok a0]=>A a0 (fun r0=>k (.i .i64 r0))
 | _=>False
theorem zcX {A A2:zv} (h:FP ro 14 (ZN A)) (hA:∀a0 K,A2 a0 K→A a0 K):FP ro 14 (ZN A2):=h.weak (by
 intro us k h;unfold ZN at h ⊢;split at h
 ·exact hA _ _ h
 ·exact h.elim)
def zaJ (A23:zh) (A32:jf):Nat→List Tok→List Tok→Int→Int→(Unit→Prop)→(Int→Prop)→Prop
 | 0,_,_,_,_,_,_=>False
 | n+1,x0,x8,x9,x10,Ke,Kr=>(((decide (x10<x9))=true→((0≤x10∧x10<(x8.length:Int))∧(A23 (Tok.mk ((x8.getD x10.toNat (Ze Cd.tok)).kind) ((x8.getD x10.toNat (Ze Cd.tok)).text) ((x8.getD x10.toNat (Ze Cd.tok)).num) ((x8.getD x10.toNat (Ze Cd.tok)).unit) ((x8.getD x10.toNat (Ze Cd.tok)).flag)) (fun y1=>(((!y1)=false→(I64 (x10+1)∧((0≤(x10+1)∧(x10+1)≤(x0.length:Int))∧(A32 (Tok.mk ((x8.getD x10.toNat (Ze Cd.tok)).kind) ((x8.getD x10.toNat (Ze Cd.tok)).text) ((x8.getD x10.toNat (Ze Cd.tok)).num) ((x8.getD x10.toNat (Ze Cd.tok)).unit) ((x8.getD x10.toNat (Ze Cd.tok)).flag)) (x0.drop (x10+1).toNat) (fun y2=>(((!y2)=true→Kr (8:Int))∧((!y2)=false→(I64 (x10+1)∧zaJ A23 A32 n x0 x8 x9 (x10+1) Ke Kr))))))))∧((!y1)=true→Kr (8:Int)))))))∧((decide (x10<x9))=false→Ke ()))
def zbZ (A23:zh) (A32:jf) (a0:List Tok) (K:Int→Prop):Prop:=
 (((decide ((1500:Int)<(a0.length:Int)))=true→K (4:Int))∧((decide ((1500:Int)<(a0.length:Int)))=false→(∃m,zaJ A23 A32 m a0 a0 (a0.length:Int) (0:Int) (fun _=>K (0:Int)) (fun y1=>K y1))))
def zbf (A23:zh) (A32:jf):jj sg:=tab [(23,con [none] (Jn A23)),(32,con [none,some Cd.tok] (zk A32))]
theorem jcj (A23:zh) (A32:jf) (h23:FP ro 23 (Jn A23)) (h32:FP ro 32 (zk A32)) (o0:Nat→Prop):CP ro o0 (zbf A23 A32):=(Za (Zc h23) (Za (Zc h32) Zd)) o0
abbrev Ja7:Type:=((List (sg.Den Cd.tok))×(List (sg.Den Cd.tok))×Int×Int×Unit)
abbrev Yb_glue_Check_4:Type:=Unit
def ls_glue_Check_4:LS syo Ja7 Yb_glue_Check_4:=⟨[],Jc 0 (JO syo Cd.tok) (Jc 8 (JO syo Cd.tok) (Jc 9 (Je syo .i64) (Jc 10 (Je syo .i64) (JD syo)))),zE syo,0,[]⟩
def le_glue_Check_4:LS syo Unit Unit:=⟨[],JD syo,zE syo,0,[]⟩
def lr_glue_Check_4:LS syo (Int×Unit) Unit:=⟨[],Jc 2 (Je syo .i64) (JD syo),zE syo,0,[]⟩
def jaJ (A23:zh) (A32:jf) (n:Nat) (x:Ja7×Yb_glue_Check_4) (K:Ex→Z sg→Prop):Prop:=zaJ A23 A32 n x.1.1 x.1.2.1 x.1.2.2.1 x.1.2.2.2.1 (fun _=>K (.exit 0) (le_glue_Check_4.put ((),()))) (fun y0=>K .ret (lr_glue_Check_4.put ((y0,()),())))
def zd3 (A23:zh) (A32:jf) (z:Z sg) (K:Ex→Z sg→Prop):Prop:=ls_glue_Check_4.get z (fun x=>∃n,jaJ A23 A32 n x K)
def jaD (A23:zh) (A32:jf):jV sg:=Zcn [(4,zd3 A23 A32)]
theorem ZdJ (A23:zh) (A32:jf) (n:Nat) (x:Ja7×Yb_glue_Check_4) (K:Ex→Z sg→Prop):Js (ls_glue_Check_4.put x) (fun z=>sC syo Tryz.prog GT (zbf A23 A32) (jaD A23 A32) Tryz.f14.ntmps (zb (za Tryz.f14) 0) z (rnd ls_glue_Check_4 (czT 0 le_glue_Check_4 lr_glue_Check_4) (fun x=>jaJ A23 A32 n x K) K))=jaJ A23 A32 (n+1) x K:=by kernel_rfl
theorem JdJ (A23:zh) (A32:jf) (z:Z sg) (K:Ex→Z sg→Prop):(jaD A23 A32) (zb (za Tryz.f14) 0) z K=ls_glue_Check_4.get z (fun x=>∃n,jaJ A23 A32 n x K):=by kernel_rfl
theorem zdK (A23:zh) (A32:jf) (h23:FP ro 23 (Jn A23)) (h32:FP ro 32 (zk A32)):∀(o0:Nat→Prop) (B:Bs sg),B.E.length≤0→∀z K,(jaD A23 A32) (zb (za Tryz.f14) 0) z K→Sx.Sem syo Tryz.prog GT (ovD ro) o0 ro Tryz.f14.ntmps B (.loop (zb (za Tryz.f14) 0)) z K:=
 ZE (jcj A23 A32 h23 h32) (Ji (l:=[]) (by kernel_rfl) je) ls_glue_Check_4 (by decide) (czT 0 le_glue_Check_4 lr_glue_Check_4) (fun _ _ hB=>JU 0 le_glue_Check_4 lr_glue_Check_4 (Nat.le_trans hB (by decide)) (Nat.le_trans hB (by decide))) (fun _ _ h=>h) (ZdJ A23 A32) (JdJ A23 A32)
theorem jeu (A23:zh) (A32:jf) (h23:FP ro 23 (Jn A23)) (h32:FP ro 32 (zk A32)):Jb7 syo Tryz.prog GT (ovD ro) ro (jaD A23 A32) 0 Tryz.f14.ntmps (za Tryz.f14):=Ji (l:=[(zb (za Tryz.f14) 0)]) (by kernel_rfl) (jE (zdK A23 A32 h23 h32) je)
theorem jd3 (A23:zh) (A32:jf) (a0:List Tok) (k:W→Prop):fnT syo Tryz.prog GT (zbf A23 A32) (jaD A23 A32) Tryz.f14.ntmps (za Tryz.f14) [none] Tryz.f14.results.toList [.l Cd.tok a0] k=zbZ A23 A32 a0 (fun r0=>k (.i .i64 r0)):=by kernel_rfl
theorem Zeu (A23:zh) (A32:jf) (h23:FP ro 23 (Jn A23)) (h32:FP ro 32 (zk A32)):FP ro 14 (ZN (zbZ A23 A32)):=(zx (rc:=[none]) (f:=14) (fn:=Tryz.f14) (c:=za Tryz.f14) (nt:=Tryz.f14.ntmps) (res:=Tryz.f14.results.toList) (C:=zbf A23 A32) (L:=(jaD A23 A32)) (fun _ _=>rfl) Tryz.func14 (by kernel_rfl) rfl rfl (jcj A23 A32 h23 h32) (jeu A23 A32 h23 h32)).weak (by
 intro us k h;unfold ZN at h;split at h
 ·skip;rename_i a0;rw [jd3 A23 A32 a0 k];exact h
 ·exact h.elim)
abbrev Jm:=List Tok→Int→(Int→Prop)→Prop
def Jx (A:Jm) (us:List W) (k:W→Prop):Prop:=match us with
 | [.l Cd.tok a0,.i .i64 a1]=>A a0 a1 (fun r0=>k (.i .i64 r0))
 | _=>False
theorem zch {A A2:Jm} (h:FP ro 20 (Jx A)) (hA:∀a0 a1 K,A2 a0 a1 K→A a0 a1 K):FP ro 20 (Jx A2):=h.weak (by
 intro us k h;unfold Jx at h ⊢;split at h
 ·exact hA _ _ _ h
 ·exact h.elim)
def Jaj (A38:jb) (A39:zd):Nat→List Tok→Int→(Int→Prop)→Prop
 | 0,_,_,_=>False
 | n+1,x0,x1,Ke=>((0≤x1∧x1<(x0.length:Int))∧(((decide (((x0.getD x1.toNat (Ze Cd.tok)).kind)≠(5:Int)))=true→(I64 (x1+1)∧Jaj A38 A39 n x0 (x1+1) Ke))∧((decide (((x0.getD x1.toNat (Ze Cd.tok)).kind)≠(5:Int)))=false→Ke x1)))
def za8 (A38:jb) (A39:zd) (a0:List Tok) (a1:Int) (K:Int→Prop):Prop:=
 ((0≤a1∧a1<(a0.length:Int))∧(A38 (Tok.mk ((a0.getD a1.toNat (Ze Cd.tok)).kind) ((a0.getD a1.toNat (Ze Cd.tok)).text) ((a0.getD a1.toNat (Ze Cd.tok)).num) ((a0.getD a1.toNat (Ze Cd.tok)).unit) ((a0.getD a1.toNat (Ze Cd.tok)).flag)) (fun y1=>((y1=true→(I64 (a1+2)∧K (a1+2)))∧(y1=false→((0≤a1∧a1<(a0.length:Int))∧(A39 (Tok.mk ((a0.getD a1.toNat (Ze Cd.tok)).kind) ((a0.getD a1.toNat (Ze Cd.tok)).text) ((a0.getD a1.toNat (Ze Cd.tok)).num) ((a0.getD a1.toNat (Ze Cd.tok)).unit) ((a0.getD a1.toNat (Ze Cd.tok)).flag)) (fun y2=>((y2=true→(∃m,Jaj A38 A39 m a0 a1 (fun y3=>(I64 (y3+1)∧K (y3+1)))))∧(y2=false→(I64 (a1+1)∧K (a1+1))))))))))))
def ZaJ (A38:jb) (A39:zd):jj sg:=tab [(38,con [none] (Jg A38)),(39,con [none] (Zi A39))]
theorem Jbs (A38:jb) (A39:zd) (h38:FP ro 38 (Jg A38)) (h39:FP ro 39 (Zi A39)) (o0:Nat→Prop):CP ro o0 (ZaJ A38 A39):=(Za (Zc h38) (Za (Zc h39) Zd)) o0
abbrev JaJ:Type:=((List (sg.Den Cd.tok))×Int×Unit)
abbrev Yb_glue_pieceEnd_4:Type:=Unit
def ls_glue_pieceEnd_4:LS syo JaJ Yb_glue_pieceEnd_4:=⟨[],Jc 0 (JO syo Cd.tok) (Jc 1 (Je syo .i64) (JD syo)),zE syo,0,[]⟩
def le_glue_pieceEnd_4:LS syo (Int×Unit) Unit:=⟨[],Jc 1 (Je syo .i64) (JD syo),zE syo,0,[]⟩
def zaK:LS syo Unit Unit:=⟨[],JD syo,zE syo,0,[]⟩
def zak (A38:jb) (A39:zd) (n:Nat) (x:JaJ×Yb_glue_pieceEnd_4) (K:Ex→Z sg→Prop):Prop:=Jaj A38 A39 n x.1.1 x.1.2.1 (fun y0=>K (.exit 1) (le_glue_pieceEnd_4.put ((y0,()),())))
def jcX (A38:jb) (A39:zd) (z:Z sg) (K:Ex→Z sg→Prop):Prop:=ls_glue_pieceEnd_4.get z (fun x=>∃n,zak A38 A39 n x K)
def J7 (A38:jb) (A39:zd):jV sg:=Zcn [(4,jcX A38 A39)]
theorem jcE (A38:jb) (A39:zd) (n:Nat) (x:JaJ×Yb_glue_pieceEnd_4) (K:Ex→Z sg→Prop):Js (ls_glue_pieceEnd_4.put x) (fun z=>sC syo Tryz.prog GT (ZaJ A38 A39) (J7 A38 A39) Tryz.f20.ntmps (zb (za Tryz.f20) 0) z (rnd ls_glue_pieceEnd_4 (czT 1 le_glue_pieceEnd_4 zaK) (fun x=>zak A38 A39 n x K) K))=zak A38 A39 (n+1) x K:=by kernel_rfl
theorem ZcE (A38:jb) (A39:zd) (z:Z sg) (K:Ex→Z sg→Prop):(J7 A38 A39) (zb (za Tryz.f20) 0) z K=ls_glue_pieceEnd_4.get z (fun x=>∃n,zak A38 A39 n x K):=by kernel_rfl
theorem JcE (A38:jb) (A39:zd) (h38:FP ro 38 (Jg A38)) (h39:FP ro 39 (Zi A39)):∀(o0:Nat→Prop) (B:Bs sg),B.E.length≤0→∀z K,(J7 A38 A39) (zb (za Tryz.f20) 0) z K→Sx.Sem syo Tryz.prog GT (ovD ro) o0 ro Tryz.f20.ntmps B (.loop (zb (za Tryz.f20) 0)) z K:=
 ZE (Jbs A38 A39 h38 h39) (Ji (l:=[]) (by kernel_rfl) je) ls_glue_pieceEnd_4 (by decide) (czT 1 le_glue_pieceEnd_4 zaK) (fun _ _ hB=>JU 1 le_glue_pieceEnd_4 zaK (Nat.le_trans hB (by decide)) (Nat.le_trans hB (by decide))) (fun _ _ h=>h) (jcE A38 A39) (ZcE A38 A39)
theorem jdi (A38:jb) (A39:zd) (h38:FP ro 38 (Jg A38)) (h39:FP ro 39 (Zi A39)):Jb7 syo Tryz.prog GT (ovD ro) ro (J7 A38 A39) 0 Tryz.f20.ntmps (za Tryz.f20):=Ji (l:=[(zb (za Tryz.f20) 0)]) (by kernel_rfl) (jE (JcE A38 A39 h38 h39) je)
theorem ZcX (A38:jb) (A39:zd) (a0:List Tok) (a1:Int) (k:W→Prop):fnT syo Tryz.prog GT (ZaJ A38 A39) (J7 A38 A39) Tryz.f20.ntmps (za Tryz.f20) [none] Tryz.f20.results.toList [.l Cd.tok a0,.i .i64 a1] k=za8 A38 A39 a0 a1 (fun r0=>k (.i .i64 r0)):=by kernel_rfl
theorem Zdi (A38:jb) (A39:zd) (h38:FP ro 38 (Jg A38)) (h39:FP ro 39 (Zi A39)):FP ro 20 (Jx (za8 A38 A39)):=(zx (rc:=[none]) (f:=20) (fn:=Tryz.f20) (c:=za Tryz.f20) (nt:=Tryz.f20.ntmps) (res:=Tryz.f20.results.toList) (C:=ZaJ A38 A39) (L:=(J7 A38 A39)) (fun _ _=>rfl) Tryz.func20 (by kernel_rfl) rfl rfl (Jbs A38 A39 h38 h39) (jdi A38 A39 h38 h39)).weak (by
 intro us k h;unfold Jx at h;split at h
 ·skip;rename_i a0 a1;rw [ZcX A38 A39 a0 a1 k];exact h
 ·exact h.elim)
abbrev jT:=List Tok→List Tok→(Bool→Prop)→Prop
def ZM (A:jT) (us:List W) (k:W→Prop):Prop:=match us with
 | [.l Cd.tok a0,.l Cd.tok a1]=>A a0 a1 (fun r0=>k (.b r0))
 | _=>False
theorem zct {A A2:jT} (h:FP ro 71 (ZM A)) (hA:∀a0 a1 K,A2 a0 a1 K→A a0 a1 K):FP ro 71 (ZM A2):=h.weak (by
 intro us k h;unfold ZM at h ⊢;split at h
 ·exact hA _ _ _ h
 ·exact h.elim)
def zas:Nat→List Tok→List Tok→Int→Int→(Unit→Prop)→(Bool→Prop)→Prop
 | 0,_,_,_,_,_,_=>False
 | n+1,x0,x1,x12,x13,Ke,Kr=>(((decide (x13<x12))=true→((0≤x13∧x13<(x0.length:Int))∧((0≤x13∧x13<(x1.length:Int))∧(((!(decide ((x0.getD x13.toNat (Ze Cd.tok)).kind=(x1.getD x13.toNat (Ze Cd.tok)).kind)&&((((x0.getD x13.toNat (Ze Cd.tok)).text)==((x1.getD x13.toNat (Ze Cd.tok)).text))&&(decide ((x0.getD x13.toNat (Ze Cd.tok)).num=(x1.getD x13.toNat (Ze Cd.tok)).num)&&((((x0.getD x13.toNat (Ze Cd.tok)).unit)==((x1.getD x13.toNat (Ze Cd.tok)).unit))&&((((x0.getD x13.toNat (Ze Cd.tok)).flag)==((x1.getD x13.toNat (Ze Cd.tok)).flag))&&true))))))=true→Kr false)∧((!(decide ((x0.getD x13.toNat (Ze Cd.tok)).kind=(x1.getD x13.toNat (Ze Cd.tok)).kind)&&((((x0.getD x13.toNat (Ze Cd.tok)).text)==((x1.getD x13.toNat (Ze Cd.tok)).text))&&(decide ((x0.getD x13.toNat (Ze Cd.tok)).num=(x1.getD x13.toNat (Ze Cd.tok)).num)&&((((x0.getD x13.toNat (Ze Cd.tok)).unit)==((x1.getD x13.toNat (Ze Cd.tok)).unit))&&((((x0.getD x13.toNat (Ze Cd.tok)).flag)==((x1.getD x13.toNat (Ze Cd.tok)).flag))&&true))))))=false→(I64 (x13+1)∧zas n x0 x1 x12 (x13+1) Ke Kr))))))∧((decide (x13<x12))=false→Ke ()))
def zbl (a0:List Tok) (a1:List Tok) (K:Bool→Prop):Prop:=
 (((decide ((a0.length:Int)≠(a1.length:Int)))=true→K false)∧((decide ((a0.length:Int)≠(a1.length:Int)))=false→(∃m,zas m a0 a1 (a0.length:Int) (0:Int) (fun _=>K true) (fun y1=>K y1))))
def zaU:jj sg:=tab []
theorem ZbK (o0:Nat→Prop):CP ro o0 (zaU):=Zd o0
abbrev jaR:Type:=((List (sg.Den Cd.tok))×(List (sg.Den Cd.tok))×Int×Int×Unit)
abbrev Yb_slices_Equal_4:Type:=Unit
def ls_slices_Equal_4:LS syo jaR Yb_slices_Equal_4:=⟨[],Jc 0 (JO syo Cd.tok) (Jc 1 (JO syo Cd.tok) (Jc 12 (Je syo .i64) (Jc 13 (Je syo .i64) (JD syo)))),zE syo,0,[]⟩
def le_slices_Equal_4:LS syo Unit Unit:=⟨[],JD syo,zE syo,0,[]⟩
def lr_slices_Equal_4:LS syo (Bool×Unit) Unit:=⟨[],Jc 4 (jn syo) (JD syo),zE syo,0,[]⟩
def jas (n:Nat) (x:jaR×Yb_slices_Equal_4) (K:Ex→Z sg→Prop):Prop:=zas n x.1.1 x.1.2.1 x.1.2.2.1 x.1.2.2.2.1 (fun _=>K (.exit 0) (le_slices_Equal_4.put ((),()))) (fun y0=>K .ret (lr_slices_Equal_4.put ((y0,()),())))
def Jdi (z:Z sg) (K:Ex→Z sg→Prop):Prop:=ls_slices_Equal_4.get z (fun x=>∃n,jas n x K)
def Jag:jV sg:=Zcn [(4,Jdi)]
theorem JcX (n:Nat) (x:jaR×Yb_slices_Equal_4) (K:Ex→Z sg→Prop):Js (ls_slices_Equal_4.put x) (fun z=>sC syo Tryz.prog GT (zaU) (Jag) Tryz.f71.ntmps (zb (za Tryz.f71) 0) z (rnd ls_slices_Equal_4 (czT 0 le_slices_Equal_4 lr_slices_Equal_4) (fun x=>jas n x K) K))=jas (n+1) x K:=by kernel_rfl
theorem zcY (z:Z sg) (K:Ex→Z sg→Prop):(Jag) (zb (za Tryz.f71) 0) z K=ls_slices_Equal_4.get z (fun x=>∃n,jas n x K):=by kernel_rfl
theorem jcY:∀(o0:Nat→Prop) (B:Bs sg),B.E.length≤0→∀z K,(Jag) (zb (za Tryz.f71) 0) z K→Sx.Sem syo Tryz.prog GT (ovD ro) o0 ro Tryz.f71.ntmps B (.loop (zb (za Tryz.f71) 0)) z K:=
 ZE (ZbK) (Ji (l:=[]) (by kernel_rfl) je) ls_slices_Equal_4 (by decide) (czT 0 le_slices_Equal_4 lr_slices_Equal_4) (fun _ _ hB=>JU 0 le_slices_Equal_4 lr_slices_Equal_4 (Nat.le_trans hB (by decide)) (Nat.le_trans hB (by decide))) (fun _ _ h=>h) (JcX) (zcY)
theorem jdK:Jb7 syo Tryz.prog GT (ovD ro) ro (Jag) 0 Tryz.f71.ntmps (za Tryz.f71):=Ji (l:=[(zb (za Tryz.f71) 0)]) (by kernel_rfl) (jE (jcY) je)
theorem zdj (a0:List Tok) (a1:List Tok) (k:W→Prop):fnT syo Tryz.prog GT (zaU) (Jag) Tryz.f71.ntmps (za Tryz.f71) [none] Tryz.f71.results.toList [.l Cd.tok a0,.l Cd.tok a1] k=zbl a0 a1 (fun r0=>k (.b r0)):=by kernel_rfl
theorem ZdK:FP ro 71 (ZM (zbl)):=(zx (rc:=[none]) (f:=71) (fn:=Tryz.f71) (c:=za Tryz.f71) (nt:=Tryz.f71.ntmps) (res:=Tryz.f71.results.toList) (C:=zaU) (L:=(Jag)) (fun _ _=>rfl) Tryz.func71 (by kernel_rfl) rfl rfl (ZbK) (jdK)).weak (by
 intro us k h;unfold ZM at h;split at h
 ·skip;rename_i a0 a1;rw [zdj a0 a1 k];exact h
 ·exact h.elim)
abbrev jk:=Bt→List Tok→(Bool→Prop)→Prop
def Zt (A:jk) (us:List W) (k:W→Prop):Prop:=match us with
 | [.s a0,.l Cd.tok a1]=>A a0 a1 (fun r0=>k (.b r0))
 | _=>False
theorem jch {A A2:jk} (h:FP ro 41 (Zt A)) (hA:∀a0 a1 K,A2 a0 a1 K→A a0 a1 K):FP ro 41 (Zt A2):=h.weak (by
 intro us k h;unfold Zt at h ⊢;split at h
 ·exact hA _ _ _ h
 ·exact h.elim)
def ja8 (A18:Z7) (A71:jT) (a0:Bt) (a1:List Tok) (K:Bool→Prop):Prop:=
 (A18 a0 (fun y1 y2=>(((decide (y2=0))=true→(A71 y1 a1 (fun y3=>K y3)))∧((decide (y2=0))=false→K false))))
def Za8 (A18:Z7) (A71:jT):jj sg:=tab [(18,con [none] (zag A18)),(71,con [some Cd.tok,some Cd.tok] (ZM A71))]
theorem ZcY (A18:Z7) (A71:jT) (h18:FP ro 18 (zag A18)) (h71:FP ro 71 (ZM A71)) (o0:Nat→Prop):CP ro o0 (Za8 A18 A71):=(Za (Zc h18) (Za (Zc h71) Zd)) o0
theorem JcY (A18:Z7) (A71:jT) (a0:Bt) (a1:List Tok) (k:W→Prop):fnT syo Tryz.prog GT (Za8 A18 A71) noL Tryz.f41.ntmps (za Tryz.f41) [none] Tryz.f41.results.toList [.s a0,.l Cd.tok a1] k=ja8 A18 A71 a0 a1 (fun r0=>k (.b r0)):=by kernel_rfl
theorem jdj (A18:Z7) (A71:jT) (h18:FP ro 18 (zag A18)) (h71:FP ro 71 (ZM A71)):FP ro 41 (Zt (ja8 A18 A71)):=(zx (rc:=[none]) (f:=41) (fn:=Tryz.f41) (c:=za Tryz.f41) (nt:=Tryz.f41.ntmps) (res:=Tryz.f41.results.toList) (C:=Za8 A18 A71) (L:=noL) (fun _ _=>rfl) Tryz.func41 (by kernel_rfl) rfl rfl (ZcY A18 A71 h18 h71) (Ji (l:=[]) (by kernel_rfl) je)).weak (by
 intro us k h;unfold Zt at h;split at h
 ·skip;rename_i a0 a1;rw [JcY A18 A71 a0 a1 k];exact h
 ·exact h.elim)
end Go.Proofs.YtmnegokadegioaaGreatDoor
