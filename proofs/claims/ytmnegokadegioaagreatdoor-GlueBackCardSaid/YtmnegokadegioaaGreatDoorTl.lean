/-
 Small letters of the reference, followed. Nothing is claimed here.
-/
import Derived.Test.YtmnegokadegioaaGreatDoorTd
import Derived.Test.YtmnegokadegioaaGreatDoorSa2
namespace Go.Proofs.YtmnegokadegioaaGreatDoor
open Go.Vm Go.Sx Go.RowKit
variable {ro:Nat}
def syc:Sy sg:=sy.cv
abbrev JI:=Int→(Int→Prop)→Prop
def J9 (A:JI) (us:List W) (k:W→Prop):Prop:=match us with
 | [.i .u8 a0]=>A a0 (fun r0=>k (.i .u8 r0))
 | _=>False
theorem JdM {A A2:JI} (h:FnOK syc Tryz.prog GT (ovD ro) ro 86 (J9 A)) (hA:∀a0 K,A2 a0 K→A a0 K):FnOK syc Tryz.prog GT (ovD ro) ro 86 (J9 A2):=h.weak (by
 intro us k h;unfold J9 at h ⊢;split at h
 ·exact hA _ _ h
 ·exact h.elim)
def ZcZ (a0:Int) (K:Int→Prop):Prop:=
 (((decide ((65:Int)≤a0))=true→(((decide (a0≤90))=true→K (IntKind.u8.wrap ((IntKind.u8.wrap (a0-65))+97)))∧((decide (a0≤90))=false→K a0)))∧((decide ((65:Int)≤a0))=false→K a0))
def JcZ:jj sg:=tab []
theorem Je0 (o0:Nat→Prop):zB syc Tryz.prog GT (ovD ro) o0 ro (JcZ):=Zd o0
theorem ze1 (a0:Int) (k:W→Prop):fnT syc Tryz.prog GT (JcZ) noL Tryz.f86.ntmps (za Tryz.f86) [none] Tryz.f86.results.toList [.i .u8 a0] k=ZcZ a0 (fun r0=>k (.i .u8 r0)):=by kernel_rfl
theorem Jfu:FnOK syc Tryz.prog GT (ovD ro) ro 86 (J9 (ZcZ)):=(zx (rc:=[none]) (f:=86) (fn:=Tryz.f86) (c:=za Tryz.f86) (nt:=Tryz.f86.ntmps) (res:=Tryz.f86.results.toList) (C:=JcZ) (L:=noL) (fun _ _=>rfl) Tryz.func86 (by kernel_rfl) rfl rfl (Je0) (Ji (l:=[]) (by kernel_rfl) je)).weak (by
 intro us k h;unfold J9 at h;split at h
 ·rw [ze1];exact h
 ·exact h.elim)
abbrev zaE:=Bt→(Bt→Prop)→Prop
def Zas (A:zaE) (us:List W) (k:W→Prop):Prop:=match us with
 | [.s a0]=>A a0 (fun r0=>k (.s r0))
 | _=>False
theorem zdN {A A2:zaE} (h:FnOK syc Tryz.prog GT (ovD ro) ro 66 (Zas A)) (hA:∀a0 K,A2 a0 K→A a0 K):FnOK syc Tryz.prog GT (ovD ro) ro 66 (Zas A2):=h.weak (by
 intro us k h;unfold Zas at h ⊢;split at h
 ·exact hA _ _ h
 ·exact h.elim)
def Jas (A86:JI):Nat→Int→Bt→(Bt→Prop)→Prop
 | 0,_,_,_=>False
 | n+1,x4,b0,Ke=>(((decide (x4<(b0.length:Int)))=true→((0≤x4∧x4<(b0.length:Int))∧(x4.toNat<b0.length∧(A86 (UInt8.toNat (b0.getD x4.toNat (Ze Cd.u8)):Int) (fun y1=>((0≤x4∧x4<(b0.length:Int))∧(x4.toNat<b0.length∧((0≤y1∧y1≤255)∧(I64 (x4+1)∧Jas A86 n (x4+1) (b0.set x4.toNat (UInt8.ofNat y1.toNat)) Ke)))))))))∧((decide (x4<(b0.length:Int)))=false→Ke b0))
def zc0 (A86:JI) (a0:Bt) (K:Bt→Prop):Prop:=
 (a0.length≤1099511627776∧(∃m,Jas A86 m (0:Int) a0 (fun y1=>K y1)))
def Zca (A86:JI):jj sg:=tab [(86,con [none] (J9 A86))]
theorem zc9 (A86:JI) (h86:FnOK syc Tryz.prog GT (ovD ro) ro 86 (J9 A86)) (o0:Nat→Prop):zB syc Tryz.prog GT (ovD ro) o0 ro (Zca A86):=(Za (Zc h86) Zd) o0
abbrev ZbG:Type:=(Unit×Int×Unit)
abbrev Yb_r1_Lower_3:Type:=(List (sg.Den Cd.u8)×Unit)
def ls_r1_Lower_3:LS syc ZbG Yb_r1_Lower_3:=⟨[],Jc 3 (jJ syc (.o 0)) (Jc 4 (Je syc .i64) (JD syc)),zP 0 Cd.u8 (zE syc),1,[]⟩
def le_r1_Lower_3:LS syc (Unit×Unit) (List (sg.Den Cd.u8)×Unit):=⟨[],Jc 3 (jJ syc (.o 0)) (JD syc),zP 0 Cd.u8 (zE syc),1,[]⟩
def JbG:LS syc Unit Unit:=⟨[],JD syc,zE syc,0,[]⟩
def Ja0 (A86:JI) (n:Nat) (x:ZbG×Yb_r1_Lower_3) (K:Ex→Z sg→Prop):Prop:=Jas A86 n x.1.2.1 x.2.1 (fun y0=>K (.exit 0) (le_r1_Lower_3.put (((),()),(y0,()))))
def je1 (A86:JI) (z:Z sg) (K:Ex→Z sg→Prop):Prop:=ls_r1_Lower_3.get z (fun x=>∃n,Ja0 A86 n x K)
def ja3 (A86:JI):jV sg:=Zcn [(3,je1 A86)]
theorem jev (A86:JI) (n:Nat) (x:ZbG×Yb_r1_Lower_3) (K:Ex→Z sg→Prop):Js (ls_r1_Lower_3.put x) (fun z=>sC syc Tryz.prog GT (Zca A86) (ja3 A86) Tryz.f66.ntmps (zb (za Tryz.f66) 0) z (rnd ls_r1_Lower_3 (czT 0 le_r1_Lower_3 JbG) (fun x=>Ja0 A86 n x K) K))=Ja0 A86 (n+1) x K:=by kernel_rfl
theorem Zev (A86:JI) (z:Z sg) (K:Ex→Z sg→Prop):(ja3 A86) (zb (za Tryz.f66) 0) z K=ls_r1_Lower_3.get z (fun x=>∃n,Ja0 A86 n x K):=by kernel_rfl
theorem Jev (A86:JI) (h86:FnOK syc Tryz.prog GT (ovD ro) ro 86 (J9 A86)):∀(o0:Nat→Prop) (B:Bs sg),B.E.length≤0→∀z K,(ja3 A86) (zb (za Tryz.f66) 0) z K→Sx.Sem syc Tryz.prog GT (ovD ro) o0 ro Tryz.f66.ntmps B (.loop (zb (za Tryz.f66) 0)) z K:=
 ZE (zc9 A86 h86) (Ji (l:=[]) (by kernel_rfl) je) ls_r1_Lower_3 (by decide) (czT 0 le_r1_Lower_3 JbG) (fun _ _ hB=>JU 0 le_r1_Lower_3 JbG (Nat.le_trans hB (by decide)) (Nat.le_trans hB (by decide))) (fun _ _ h=>h) (jev A86) (Zev A86)
theorem zfv (A86:JI) (h86:FnOK syc Tryz.prog GT (ovD ro) ro 86 (J9 A86)):Jb7 syc Tryz.prog GT (ovD ro) ro (ja3 A86) 0 Tryz.f66.ntmps (za Tryz.f66):=Ji (l:=[(zb (za Tryz.f66) 0)]) (by kernel_rfl) (jE (Jev A86 h86) je)
theorem Ze1 (A86:JI) (a0:Bt) (k:W→Prop):fnT syc Tryz.prog GT (Zca A86) (ja3 A86) Tryz.f66.ntmps (za Tryz.f66) [none] Tryz.f66.results.toList [.s a0] k=zc0 A86 a0 (fun r0=>k (.s r0)):=by kernel_rfl
theorem jfv (A86:JI) (h86:FnOK syc Tryz.prog GT (ovD ro) ro 86 (J9 A86)):FnOK syc Tryz.prog GT (ovD ro) ro 66 (Zas (zc0 A86)):=(zx (rc:=[none]) (f:=66) (fn:=Tryz.f66) (c:=za Tryz.f66) (nt:=Tryz.f66.ntmps) (res:=Tryz.f66.results.toList) (C:=Zca A86) (L:=(ja3 A86)) (fun _ _=>rfl) Tryz.func66 (by kernel_rfl) rfl rfl (zc9 A86 h86) (zfv A86 h86)).weak (by
 intro us k h;unfold Zas at h;split at h
 ·rw [Ze1];exact h
 ·exact h.elim)
end Go.Proofs.YtmnegokadegioaaGreatDoor
