/-
 Small letters of the reference, followed. Nothing is claimed here.
-/
import Derived.Test.YtmnegokadegioaaGreatDoorTd
import Derived.Test.YtmnegokadegioaaGreatDoorSa2
namespace Go.Proofs.YtmnegokadegioaaGreatDoor
open Go.Vm Go.Sx Go.RowKit
variable {ro:Nat}
def syc:Sy sg:=sy.cv
abbrev ZJ:=Int→(Int→Prop)→Prop
def Jab (A:ZJ) (us:List W) (k:W→Prop):Prop:=match us with
 | [.i .u8 a0]=>A a0 (fun r0=>k (.i .u8 r0))
 | _=>False
theorem zdP {A A2:ZJ} (h:FnOK syc Tryz.prog GT (ovD ro) ro 86 (Jab A)) (hA:∀a0 K,A2 a0 K→A a0 K):FnOK syc Tryz.prog GT (ovD ro) ro 86 (Jab A2):=h.weak (by
 intro us k h;unfold Jab at h ⊢;split at h
 ·exact hA _ _ h
 ·exact h.elim)
def jc2 (a0:Int) (K:Int→Prop):Prop:=
 (((decide ((65:Int)≤a0))=true→(((decide (a0≤90))=true→K (IntKind.u8.wrap ((IntKind.u8.wrap (a0-65))+97)))∧((decide (a0≤90))=false→K a0)))∧((decide ((65:Int)≤a0))=false→K a0))
def Zc2:Zj sg:=tab []
theorem Je2 (o0:Nat→Prop):JB syc Tryz.prog GT (ovD ro) o0 ro (Zc2):=jd o0
theorem ze3 (a0:Int) (k:W→Prop):fnT syc Tryz.prog GT (Zc2) noL Tryz.f86.ntmps (za Tryz.f86) [none] Tryz.f86.results.toList [.i .u8 a0] k=jc2 a0 (fun r0=>k (.i .u8 r0)):=by kernel_rfl
theorem zfz:FnOK syc Tryz.prog GT (ovD ro) ro 86 (Jab (jc2)):=(jx (rc:=[none]) (f:=86) (fn:=Tryz.f86) (c:=za Tryz.f86) (nt:=Tryz.f86.ntmps) (res:=Tryz.f86.results.toList) (C:=Zc2) (L:=noL) (fun _ _=>rfl) Tryz.func86 (by kernel_rfl) rfl rfl (Je2) (Ji (l:=[]) (by kernel_rfl) Zd)).weak (by
 intro us k h;unfold Jab at h;split at h
 ·rw [ze3];exact h
 ·exact h.elim)
abbrev jaG:=Bt→(Bt→Prop)→Prop
def Zav (A:jaG) (us:List W) (k:W→Prop):Prop:=match us with
 | [.s a0]=>A a0 (fun r0=>k (.s r0))
 | _=>False
theorem jdP {A A2:jaG} (h:FnOK syc Tryz.prog GT (ovD ro) ro 66 (Zav A)) (hA:∀a0 K,A2 a0 K→A a0 K):FnOK syc Tryz.prog GT (ovD ro) ro 66 (Zav A2):=h.weak (by
 intro us k h;unfold Zav at h ⊢;split at h
 ·exact hA _ _ h
 ·exact h.elim)
def Jav (A86:ZJ):Nat→Int→Bt→(Bt→Prop)→Prop
 | 0,_,_,_=>False
 | n+1,x4,b0,Ke=>(((decide (x4<(b0.length:Int)))=true→((0≤x4∧x4<(b0.length:Int))∧(x4.toNat<b0.length∧(A86 (UInt8.toNat (b0.getD x4.toNat (Ze Cd.u8)):Int) (fun y1=>((0≤x4∧x4<(b0.length:Int))∧(x4.toNat<b0.length∧((0≤y1∧y1≤255)∧(I64 (x4+1)∧Jav A86 n (x4+1) (b0.set x4.toNat (UInt8.ofNat y1.toNat)) Ke)))))))))∧((decide (x4<(b0.length:Int)))=false→Ke b0))
def Jc2 (A86:ZJ) (a0:Bt) (K:Bt→Prop):Prop:=
 (a0.length≤1099511627776∧(∃m,Jav A86 m (0:Int) a0 (fun y1=>K y1)))
def Jcc (A86:ZJ):Zj sg:=tab [(86,con [none] (Jab A86))]
theorem jdb (A86:ZJ) (h86:FnOK syc Tryz.prog GT (ovD ro) ro 86 (Jab A86)) (o0:Nat→Prop):JB syc Tryz.prog GT (ovD ro) o0 ro (Jcc A86):=(Za (Zc h86) jd) o0
abbrev ZbJ:Type:=(Unit×Int×Unit)
abbrev Yb_r1_Lower_3:Type:=(List (sg.Den Cd.u8)×Unit)
def ls_r1_Lower_3:LS syc ZbJ Yb_r1_Lower_3:=⟨[],Jc 3 (jK syc (.o 0)) (Jc 4 (Je syc .i64) (JC syc)),zQ 0 Cd.u8 (zD syc),1,[]⟩
def le_r1_Lower_3:LS syc (Unit×Unit) (List (sg.Den Cd.u8)×Unit):=⟨[],Jc 3 (jK syc (.o 0)) (JC syc),zQ 0 Cd.u8 (zD syc),1,[]⟩
def JbJ:LS syc Unit Unit:=⟨[],JC syc,zD syc,0,[]⟩
def Ja2 (A86:ZJ) (n:Nat) (x:ZbJ×Yb_r1_Lower_3) (K:Ex→Z sg→Prop):Prop:=Jav A86 n x.1.2.1 x.2.1 (fun y0=>K (.exit 0) (le_r1_Lower_3.put (((),()),(y0,()))))
def je3 (A86:ZJ) (z:Z sg) (K:Ex→Z sg→Prop):Prop:=ls_r1_Lower_3.get z (fun x=>∃n,Ja2 A86 n x K)
def Za5 (A86:ZJ):ZW sg:=jcm [(3,je3 A86)]
theorem jey (A86:ZJ) (n:Nat) (x:ZbJ×Yb_r1_Lower_3) (K:Ex→Z sg→Prop):zt (ls_r1_Lower_3.put x) (fun z=>sC syc Tryz.prog GT (Jcc A86) (Za5 A86) Tryz.f66.ntmps (zb (za Tryz.f66) 0) z (rnd ls_r1_Lower_3 (czT 0 le_r1_Lower_3 JbJ) (fun x=>Ja2 A86 n x K) K))=Ja2 A86 (n+1) x K:=by kernel_rfl
theorem Zey (A86:ZJ) (z:Z sg) (K:Ex→Z sg→Prop):(Za5 A86) (zb (za Tryz.f66) 0) z K=ls_r1_Lower_3.get z (fun x=>∃n,Ja2 A86 n x K):=by kernel_rfl
theorem Jey (A86:ZJ) (h86:FnOK syc Tryz.prog GT (ovD ro) ro 86 (Jab A86)):∀(o0:Nat→Prop) (B:Bs sg),B.E.length≤0→∀z K,(Za5 A86) (zb (za Tryz.f66) 0) z K→Sx.Sem syc Tryz.prog GT (ovD ro) o0 ro Tryz.f66.ntmps B (.loop (zb (za Tryz.f66) 0)) z K:=
 ZD (jdb A86 h86) (Ji (l:=[]) (by kernel_rfl) Zd) ls_r1_Lower_3 (by decide) (czT 0 le_r1_Lower_3 JbJ) (fun _ _ hB=>ZV 0 le_r1_Lower_3 JbJ (Nat.le_trans hB (by decide)) (Nat.le_trans hB (by decide))) (fun _ _ h=>h) (jey A86) (Zey A86)
theorem jfz (A86:ZJ) (h86:FnOK syc Tryz.prog GT (ovD ro) ro 86 (Jab A86)):jbV syc Tryz.prog GT (ovD ro) ro (Za5 A86) 0 Tryz.f66.ntmps (za Tryz.f66):=Ji (l:=[(zb (za Tryz.f66) 0)]) (by kernel_rfl) (jD (Jey A86 h86) Zd)
theorem Ze3 (A86:ZJ) (a0:Bt) (k:W→Prop):fnT syc Tryz.prog GT (Jcc A86) (Za5 A86) Tryz.f66.ntmps (za Tryz.f66) [none] Tryz.f66.results.toList [.s a0] k=Jc2 A86 a0 (fun r0=>k (.s r0)):=by kernel_rfl
theorem Zfz (A86:ZJ) (h86:FnOK syc Tryz.prog GT (ovD ro) ro 86 (Jab A86)):FnOK syc Tryz.prog GT (ovD ro) ro 66 (Zav (Jc2 A86)):=(jx (rc:=[none]) (f:=66) (fn:=Tryz.f66) (c:=za Tryz.f66) (nt:=Tryz.f66.ntmps) (res:=Tryz.f66.results.toList) (C:=Jcc A86) (L:=(Za5 A86)) (fun _ _=>rfl) Tryz.func66 (by kernel_rfl) rfl rfl (jdb A86 h86) (jfz A86 h86)).weak (by
 intro us k h;unfold Zav at h;split at h
 ·rw [Ze3];exact h
 ·exact h.elim)
end Go.Proofs.YtmnegokadegioaaGreatDoor
