/-
 The laws GlueTexts and GlueBack, followed. Nothing is claimed here.
-/
import Derived.Test.YtmnegokadegioaaGreatDoorTm
namespace Go.Proofs.YtmnegokadegioaaGreatDoor
open Go.Vm Go.Sx Go.RowKit
variable {ro:Nat}
abbrev jba:=(Bool→Prop)→Prop
def Zb4 (A:jba) (us:List W) (k:W→Prop):Prop:=match us with
 | []=>A (fun r0=>k (.b r0))
 | _=>False
abbrev jdb:=List Tok→(Bool→Prop)→Prop
def zaG (A:jdb) (us:List W) (k:W→Prop):Prop:=match us with
 | [.l Cd.tok a0]=>A a0 (fun r0=>k (.b r0))
 | _=>False
theorem Zc4 {A A2:jdb} (h:FP ro 4 (zaG A)) (hA:∀a0 K,A2 a0 K→A a0 K):FP ro 4 (zaG A2):=h.weak (by
 intro us k h;unfold zaG at h ⊢;split at h
 ·exact hA _ _ h
 ·exact h.elim)
def Jb4 (A7:zaF) (A15:JaE) (A17:jba) (A8:zab) (A18:Z7) (A16:jaV) (a0:List Tok) (K:Bool→Prop):Prop:=
 (A7 a0 (fun y1=>((y1=false→(A15 a0 (fun y2=>(((decide (y2≠0))=true→(A17 (fun y3=>K y3)))∧((decide (y2≠0))=false→(A8 a0 (fun y4 y5=>(((decide (y5≠0))=true→(((decide (y5=28))=true→(A17 (fun y6=>K y6)))∧((decide (y5=28))=false→K false)))∧((decide (y5≠0))=false→(A18 y4 (fun y7 y8=>(((decide (y8=0))=true→(A16 y7 a0 (fun y9=>((y9=true→(((decide ((y4.length:Int)≤(4000:Int)))=true→(A17 (fun y10=>K y10)))∧((decide ((y4.length:Int)≤(4000:Int)))=false→K false)))∧(y9=false→K false)))))∧((decide (y8=0))=false→K false)))))))))))))∧(y1=true→(A17 (fun y11=>K y11))))))
def zb5 (A7:zaF) (A15:JaE) (A17:jba) (A8:zab) (A18:Z7) (A16:jaV):jj sg:=tab [(7,con [some Cd.tok] (zau A7)),(15,con [some Cd.tok] (Jat A15)),(17,con [] (Zb4 A17)),(8,con [some Cd.tok] (ZY A8)),(18,con [none] (zag A18)),(16,con [some Cd.tok,some Cd.tok] (zaM A16))]
theorem Jd5 (A7:zaF) (A15:JaE) (A17:jba) (A8:zab) (A18:Z7) (A16:jaV) (h7:FP ro 7 (zau A7)) (h15:FP ro 15 (Jat A15)) (h17:FP ro 17 (Zb4 A17)) (h8:FP ro 8 (ZY A8)) (h18:FP ro 18 (zag A18)) (h16:FP ro 16 (zaM A16)) (o0:Nat→Prop):CP ro o0 (zb5 A7 A15 A17 A8 A18 A16):=(Za (Zc h7) (Za (Zc h15) (Za (Zc h17) (Za (Zc h8) (Za (Zc h18) (Za (Zc h16) Zd)))))) o0
theorem zd6 (A7:zaF) (A15:JaE) (A17:jba) (A8:zab) (A18:Z7) (A16:jaV) (a0:List Tok) (k:W→Prop):fnT syo Tryz.prog GT (zb5 A7 A15 A17 A8 A18 A16) noL Tryz.f4.ntmps (za Tryz.f4) [none] Tryz.f4.results.toList [.l Cd.tok a0] k=Jb4 A7 A15 A17 A8 A18 A16 a0 (fun r0=>k (.b r0)):=by kernel_rfl
theorem ZeF (A7:zaF) (A15:JaE) (A17:jba) (A8:zab) (A18:Z7) (A16:jaV) (h7:FP ro 7 (zau A7)) (h15:FP ro 15 (Jat A15)) (h17:FP ro 17 (Zb4 A17)) (h8:FP ro 8 (ZY A8)) (h18:FP ro 18 (zag A18)) (h16:FP ro 16 (zaM A16)):FP ro 4 (zaG (Jb4 A7 A15 A17 A8 A18 A16)):=(zx (rc:=[none]) (f:=4) (fn:=Tryz.f4) (c:=za Tryz.f4) (nt:=Tryz.f4.ntmps) (res:=Tryz.f4.results.toList) (C:=zb5 A7 A15 A17 A8 A18 A16) (L:=noL) (fun _ _=>rfl) Tryz.func4 (by kernel_rfl) rfl rfl (Jd5 A7 A15 A17 A8 A18 A16 h7 h15 h17 h8 h18 h16) (Ji (l:=[]) (by kernel_rfl) je)).weak (by
 intro us k h;unfold zaG at h;split at h
 ·skip;rename_i a0;rw [zd6 A7 A15 A17 A8 A18 A16 a0 k];exact h
 ·exact h.elim)
end Go.Proofs.YtmnegokadegioaaGreatDoor
