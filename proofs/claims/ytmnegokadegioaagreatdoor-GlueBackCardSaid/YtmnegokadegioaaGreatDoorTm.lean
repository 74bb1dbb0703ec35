/-
 The reference of the check of tokens, followed. Nothing is claimed here.
-/
import Derived.Test.YtmnegokadegioaaGreatDoorTj
import Derived.Test.YtmnegokadegioaaGreatDoorTl
namespace Go.Proofs.YtmnegokadegioaaGreatDoor
open Go.Vm Go.Sx Go.RowKit
variable {ro:Nat}
abbrev zJ:=Bt→Bt→(Bool→Prop)→Prop
def zaa (A:zJ) (us:List W) (k:W→Prop):Prop:=match us with
 | [.s a0,.s a1]=>A a0 a1 (fun r0=>k (.b r0))
 | _=>False
theorem jdN {A A2:zJ} (h:FP ro 33 (zaa A)) (hA:∀a0 a1 K,A2 a0 a1 K→A a0 a1 K):FP ro 33 (zaa A2):=h.weak (by
 intro us k h;unfold zaa at h ⊢;split at h
 ·exact hA _ _ _ h
 ·exact h.elim)
def jc0 (A66:zaE) (a0:Bt) (a1:Bt) (K:Bool→Prop):Prop:=
 (A66 a0 (fun y1=>(A66 a1 (fun y2=>K (y1==y2)))))
def Zc0 (A66:zaE):jj sg:=tab [(66,con [none] (Zas A66))]
theorem Je1 (A66:zaE) (h66:FP ro 66 (Zas A66)) (o0:Nat→Prop):CP ro o0 (Zc0 A66):=(Za (Zc h66) Zd) o0
theorem ze2 (A66:zaE) (a0:Bt) (a1:Bt) (k:W→Prop):fnT syo Tryz.prog GT (Zc0 A66) noL Tryz.f33.ntmps (za Tryz.f33) [none] Tryz.f33.results.toList [.s a0,.s a1] k=jc0 A66 a0 a1 (fun r0=>k (.b r0)):=by kernel_rfl
theorem Zfv (A66:zaE) (h66:FP ro 66 (Zas A66)):FP ro 33 (zaa (jc0 A66)):=(zx (rc:=[none]) (f:=33) (fn:=Tryz.f33) (c:=za Tryz.f33) (nt:=Tryz.f33.ntmps) (res:=Tryz.f33.results.toList) (C:=Zc0 A66) (L:=noL) (fun _ _=>rfl) Tryz.func33 (by kernel_rfl) rfl rfl (Je1 A66 h66) (Ji (l:=[]) (by kernel_rfl) je)).weak (by
 intro us k h;unfold zaa at h;split at h
 ·rw [ze2];exact h
 ·exact h.elim)
abbrev jaE:=Int→(Bool→Prop)→Prop
def zat (A:jaE) (us:List W) (k:W→Prop):Prop:=match us with
 | [.i .u8 a0]=>A a0 (fun r0=>k (.b r0))
 | _=>False
theorem ZdN {A A2:jaE} (h:FP ro 63 (zat A)) (hA:∀a0 K,A2 a0 K→A a0 K):FP ro 63 (zat A2):=h.weak (by
 intro us k h;unfold zat at h ⊢;split at h
 ·exact hA _ _ h
 ·exact h.elim)
def Jc0 (a0:Int) (K:Bool→Prop):Prop:=
 (((decide ((48:Int)≤a0))=true→K (decide (a0≤57)))∧((decide ((48:Int)≤a0))=false→K false))
def zc1:jj sg:=tab []
theorem je2 (o0:Nat→Prop):CP ro o0 (zc1):=Zd o0
theorem Ze2 (a0:Int) (k:W→Prop):fnT syo Tryz.prog GT (zc1) noL Tryz.f63.ntmps (za Tryz.f63) [none] Tryz.f63.results.toList [.i .u8 a0] k=Jc0 a0 (fun r0=>k (.b r0)):=by kernel_rfl
theorem Jfv:FP ro 63 (zat (Jc0)):=(zx (rc:=[none]) (f:=63) (fn:=Tryz.f63) (c:=za Tryz.f63) (nt:=Tryz.f63.ntmps) (res:=Tryz.f63.results.toList) (C:=zc1) (L:=noL) (fun _ _=>rfl) Tryz.func63 (by kernel_rfl) rfl rfl (je2) (Ji (l:=[]) (by kernel_rfl) je)).weak (by
 intro us k h;unfold zat at h;split at h
 ·rw [Ze2];exact h
 ·exact h.elim)
abbrev jaV:=List Tok→List Tok→(Bool→Prop)→Prop
def zaM (A:jaV) (us:List W) (k:W→Prop):Prop:=match us with
 | [.l Cd.tok a0,.l Cd.tok a1]=>A a0 a1 (fun r0=>k (.b r0))
 | _=>False
theorem zd4 {A A2:jaV} (h:FP ro 16 (zaM A)) (hA:∀a0 a1 K,A2 a0 a1 K→A a0 a1 K):FP ro 16 (zaM A2):=h.weak (by
 intro us k h;unfold zaM at h ⊢;split at h
 ·exact hA _ _ _ h
 ·exact h.elim)
def jaq:Nat→List Tok→List Tok→Int→(Unit→Prop)→(Bool→Prop)→Prop
 | 0,_,_,_,_,_=>False
 | n+1,x0,x1,x5,Ke,Kr=>(((decide (x5<(x0.length:Int)))=true→((0≤x5∧x5<(x0.length:Int))∧((0≤x5∧x5<(x1.length:Int))∧(((!(decide ((x0.getD x5.toNat (Ze Cd.tok)).kind=(x1.getD x5.toNat (Ze Cd.tok)).kind)&&((((x0.getD x5.toNat (Ze Cd.tok)).text)==((x1.getD x5.toNat (Ze Cd.tok)).text))&&(decide ((x0.getD x5.toNat (Ze Cd.tok)).num=(x1.getD x5.toNat (Ze Cd.tok)).num)&&((((x0.getD x5.toNat (Ze Cd.tok)).unit)==((x1.getD x5.toNat (Ze Cd.tok)).unit))&&((((x0.getD x5.toNat (Ze Cd.tok)).flag)==((x1.getD x5.toNat (Ze Cd.tok)).flag))&&true))))))=true→Kr false)∧((!(decide ((x0.getD x5.toNat (Ze Cd.tok)).kind=(x1.getD x5.toNat (Ze Cd.tok)).kind)&&((((x0.getD x5.toNat (Ze Cd.tok)).text)==((x1.getD x5.toNat (Ze Cd.tok)).text))&&(decide ((x0.getD x5.toNat (Ze Cd.tok)).num=(x1.getD x5.toNat (Ze Cd.tok)).num)&&((((x0.getD x5.toNat (Ze Cd.tok)).unit)==((x1.getD x5.toNat (Ze Cd.tok)).unit))&&((((x0.getD x5.toNat (Ze Cd.tok)).flag)==((x1.getD x5.toNat (Ze Cd.tok)).flag))&&true))))))=false→(I64 (x5+1)∧jaq n x0 x1 (x5+1) Ke Kr))))))∧((decide (x5<(x0.length:Int)))=false→Ke ()))
def JdN (a0:List Tok) (a1:List Tok) (K:Bool→Prop):Prop:=
 (((decide ((a0.length:Int)≠(a1.length:Int)))=true→K false)∧((decide ((a0.length:Int)≠(a1.length:Int)))=false→(∃m,jaq m a0 a1 (0:Int) (fun _=>K true) (fun y1=>K y1))))
def jcG:jj sg:=tab []
theorem zdO (o0:Nat→Prop):CP ro o0 (jcG):=Zd o0
abbrev jb2:Type:=((List (sg.Den Cd.tok))×(List (sg.Den Cd.tok))×Int×Unit)
abbrev Yb_r2_Same_4:Type:=Unit
def ls_r2_Same_4:LS syo jb2 Yb_r2_Same_4:=⟨[],Jc 0 (JO syo Cd.tok) (Jc 1 (JO syo Cd.tok) (Jc 5 (Je syo .i64) (JD syo))),zE syo,0,[]⟩
def le_r2_Same_4:LS syo Unit Unit:=⟨[],JD syo,zE syo,0,[]⟩
def lr_r2_Same_4:LS syo (Bool×Unit) Unit:=⟨[],Jc 4 (jn syo) (JD syo),zE syo,0,[]⟩
def Zbf (n:Nat) (x:jb2×Yb_r2_Same_4) (K:Ex→Z sg→Prop):Prop:=jaq n x.1.1 x.1.2.1 x.1.2.2.1 (fun _=>K (.exit 0) (le_r2_Same_4.put ((),()))) (fun y0=>K .ret (lr_r2_Same_4.put ((y0,()),())))
def zfw (z:Z sg) (K:Ex→Z sg→Prop):Prop:=ls_r2_Same_4.get z (fun x=>∃n,Zbf n x K)
def Zbu:jV sg:=Zcn [(4,zfw)]
theorem Je2 (n:Nat) (x:jb2×Yb_r2_Same_4) (K:Ex→Z sg→Prop):Js (ls_r2_Same_4.put x) (fun z=>sC syo Tryz.prog GT (jcG) (Zbu) Tryz.f16.ntmps (zb (za Tryz.f16) 0) z (rnd ls_r2_Same_4 (czT 0 le_r2_Same_4 lr_r2_Same_4) (fun x=>Zbf n x K) K))=Zbf (n+1) x K:=by kernel_rfl
theorem ze3 (z:Z sg) (K:Ex→Z sg→Prop):(Zbu) (zb (za Tryz.f16) 0) z K=ls_r2_Same_4.get z (fun x=>∃n,Zbf n x K):=by kernel_rfl
theorem je3:∀(o0:Nat→Prop) (B:Bs sg),B.E.length≤0→∀z K,(Zbu) (zb (za Tryz.f16) 0) z K→Sx.Sem syo Tryz.prog GT (ovD ro) o0 ro Tryz.f16.ntmps B (.loop (zb (za Tryz.f16) 0)) z K:=
 ZE (zdO) (Ji (l:=[]) (by kernel_rfl) je) ls_r2_Same_4 (by decide) (czT 0 le_r2_Same_4 lr_r2_Same_4) (fun _ _ hB=>JU 0 le_r2_Same_4 lr_r2_Same_4 (Nat.le_trans hB (by decide)) (Nat.le_trans hB (by decide))) (fun _ _ h=>h) (Je2) (ze3)
theorem jf8:Jb7 syo Tryz.prog GT (ovD ro) ro (Zbu) 0 Tryz.f16.ntmps (za Tryz.f16):=Ji (l:=[(zb (za Tryz.f16) 0)]) (by kernel_rfl) (jE (je3) je)
theorem jfw (a0:List Tok) (a1:List Tok) (k:W→Prop):fnT syo Tryz.prog GT (jcG) (Zbu) Tryz.f16.ntmps (za Tryz.f16) [none] Tryz.f16.results.toList [.l Cd.tok a0,.l Cd.tok a1] k=JdN a0 a1 (fun r0=>k (.b r0)):=by kernel_rfl
theorem Zf8:FP ro 16 (zaM (JdN)):=(zx (rc:=[none]) (f:=16) (fn:=Tryz.f16) (c:=za Tryz.f16) (nt:=Tryz.f16.ntmps) (res:=Tryz.f16.results.toList) (C:=jcG) (L:=(Zbu)) (fun _ _=>rfl) Tryz.func16 (by kernel_rfl) rfl rfl (zdO) (jf8)).weak (by
 intro us k h;unfold zaM at h;split at h
 ·skip;rename_i a0 a1;rw [jfw a0 a1 k];exact h
 ·exact h.elim)
abbrev zA:=Int→(Bool→Prop)→Prop
def jR (A:zA) (us:List W) (k:W→Prop):Prop:=match us with
 | [.i .u8 a0]=>A a0 (fun r0=>k (.b r0))
 | _=>False
abbrev ZaE:=Bt→(Bool→Prop)→Prop
def jat (A:ZaE) (us:List W) (k:W→Prop):Prop:=match us with
 | [.s a0]=>A a0 (fun r0=>k (.b r0))
 | _=>False
theorem jdO {A A2:ZaE} (h:FP ro 30 (jat A)) (hA:∀a0 K,A2 a0 K→A a0 K):FP ro 30 (jat A2):=h.weak (by
 intro us k h;unfold jat at h ⊢;split at h
 ·exact hA _ _ h
 ·exact h.elim)
def Jad:Nat→Bt→Int→(Unit→Prop)→(Bool→Prop)→Prop
 | 0,_,_,_,_=>False
 | n+1,x0,x3,Ke,Kr=>(((decide (x3<(x0.length:Int)))=true→((0≤x3∧x3<(x0.length:Int))∧(((decide (((x0.getD x3.toNat 0).toNat:Int)=(0:Int)))=true→Kr false)∧((decide (((x0.getD x3.toNat 0).toNat:Int)=(0:Int)))=false→(I64 (x3+1)∧Jad n x0 (x3+1) Ke Kr)))))∧((decide (x3<(x0.length:Int)))=false→Ke ()))
def jc1 (a0:Bt) (K:Bool→Prop):Prop:=
 (∃m,Jad m a0 (0:Int) (fun _=>K true) (fun y1=>K y1))
def Jca:jj sg:=tab []
theorem jc9 (o0:Nat→Prop):CP ro o0 (Jca):=Zd o0
abbrev zbH:Type:=((Bt)×Int×Unit)
abbrev Yb_r3_whole_2:Type:=Unit
def ls_r3_whole_2:LS syo zbH Yb_r3_whole_2:=⟨[],Jc 0 (jl syo) (Jc 3 (Je syo .i64) (JD syo)),zE syo,0,[]⟩
def le_r3_whole_2:LS syo Unit Unit:=⟨[],JD syo,zE syo,0,[]⟩
def lr_r3_whole_2:LS syo (Bool×Unit) Unit:=⟨[],Jc 2 (jn syo) (JD syo),zE syo,0,[]⟩
def za1 (n:Nat) (x:zbH×Yb_r3_whole_2) (K:Ex→Z sg→Prop):Prop:=Jad n x.1.1 x.1.2.1 (fun _=>K (.exit 0) (le_r3_whole_2.put ((),()))) (fun y0=>K .ret (lr_r3_whole_2.put ((y0,()),())))
def Ze3 (z:Z sg) (K:Ex→Z sg→Prop):Prop:=ls_r3_whole_2.get z (fun x=>∃n,za1 n x K)
def Za3:jV sg:=Zcn [(2,Ze3)]
theorem zew (n:Nat) (x:zbH×Yb_r3_whole_2) (K:Ex→Z sg→Prop):Js (ls_r3_whole_2.put x) (fun z=>sC syo Tryz.prog GT (Jca) (Za3) Tryz.f30.ntmps (zb (za Tryz.f30) 0) z (rnd ls_r3_whole_2 (czT 0 le_r3_whole_2 lr_r3_whole_2) (fun x=>za1 n x K) K))=za1 (n+1) x K:=by kernel_rfl
theorem jew (z:Z sg) (K:Ex→Z sg→Prop):(Za3) (zb (za Tryz.f30) 0) z K=ls_r3_whole_2.get z (fun x=>∃n,za1 n x K):=by kernel_rfl
theorem Zew:∀(o0:Nat→Prop) (B:Bs sg),B.E.length≤0→∀z K,(Za3) (zb (za Tryz.f30) 0) z K→Sx.Sem syo Tryz.prog GT (ovD ro) o0 ro Tryz.f30.ntmps B (.loop (zb (za Tryz.f30) 0)) z K:=
 ZE (jc9) (Ji (l:=[]) (by kernel_rfl) je) ls_r3_whole_2 (by decide) (czT 0 le_r3_whole_2 lr_r3_whole_2) (fun _ _ hB=>JU 0 le_r3_whole_2 lr_r3_whole_2 (Nat.le_trans hB (by decide)) (Nat.le_trans hB (by decide))) (fun _ _ h=>h) (zew) (jew)
theorem Zfw:Jb7 syo Tryz.prog GT (ovD ro) ro (Za3) 0 Tryz.f30.ntmps (za Tryz.f30):=Ji (l:=[(zb (za Tryz.f30) 0)]) (by kernel_rfl) (jE (Zew) je)
theorem Je3 (a0:Bt) (k:W→Prop):fnT syo Tryz.prog GT (Jca) (Za3) Tryz.f30.ntmps (za Tryz.f30) [none] Tryz.f30.results.toList [.s a0] k=jc1 a0 (fun r0=>k (.b r0)):=by kernel_rfl
theorem Jfw:FP ro 30 (jat (jc1)):=(zx (rc:=[none]) (f:=30) (fn:=Tryz.f30) (c:=za Tryz.f30) (nt:=Tryz.f30.ntmps) (res:=Tryz.f30.results.toList) (C:=Jca) (L:=(Za3)) (fun _ _=>rfl) Tryz.func30 (by kernel_rfl) rfl rfl (jc9) (Zfw)).weak (by
 intro us k h;unfold jat at h;split at h
 ·rw [Je3];exact h
 ·exact h.elim)
abbrev ZaV:=Bt→(Bool→Prop)→Prop
def jaM (A:ZaV) (us:List W) (k:W→Prop):Prop:=match us with
 | [.s a0]=>A a0 (fun r0=>k (.b r0))
 | _=>False
theorem jd4 {A A2:ZaV} (h:FP ro 55 (jaM A)) (hA:∀a0 K,A2 a0 K→A a0 K):FP ro 55 (jaM A2):=h.weak (by
 intro us k h;unfold jaM at h ⊢;split at h
 ·exact hA _ _ h
 ·exact h.elim)
def ZdO (A63:jaE) (a0:Bt) (K:Bool→Prop):Prop:=
 (((a0==([]:Bt))=true→K false)∧((a0==([]:Bt))=false→((0≤(0:Int)∧(0:Int)<(a0.length:Int))∧(A63 ((a0.getD 0 0).toNat:Int) (fun y1=>((y1=false→(((a0==([45]:Bt))=false→((0≤(0:Int)∧(0:Int)<(a0.length:Int))∧(((decide (((a0.getD 0 0).toNat:Int)=(45:Int)))=true→((0≤(1:Int)∧(1:Int)<(a0.length:Int))∧(A63 ((a0.getD 1 0).toNat:Int) (fun y2=>K y2))))∧((decide (((a0.getD 0 0).toNat:Int)=(45:Int)))=false→K false))))∧((a0==([45]:Bt))=true→K true)))∧(y1=true→K true)))))))
def JdO (A63:jaE):jj sg:=tab [(63,con [none] (zat A63))]
theorem zfx (A63:jaE) (h63:FP ro 63 (zat A63)) (o0:Nat→Prop):CP ro o0 (JdO A63):=(Za (Zc h63) Zd) o0
theorem jfx (A63:jaE) (a0:Bt) (k:W→Prop):fnT syo Tryz.prog GT (JdO A63) noL Tryz.f55.ntmps (za Tryz.f55) [none] Tryz.f55.results.toList [.s a0] k=ZdO A63 a0 (fun r0=>k (.b r0)):=by kernel_rfl
theorem Jf8 (A63:jaE) (h63:FP ro 63 (zat A63)):FP ro 55 (jaM (ZdO A63)):=(zx (rc:=[none]) (f:=55) (fn:=Tryz.f55) (c:=za Tryz.f55) (nt:=Tryz.f55.ntmps) (res:=Tryz.f55.results.toList) (C:=JdO A63) (L:=noL) (fun _ _=>rfl) Tryz.func55 (by kernel_rfl) rfl rfl (zfx A63 h63) (Ji (l:=[]) (by kernel_rfl) je)).weak (by
 intro us k h;unfold jaM at h;split at h
 ·rw [jfx];exact h
 ·exact h.elim)
abbrev ZR:=Tok→(Bool→Prop)→Prop
def Zaq (A:ZR) (us:List W) (k:W→Prop):Prop:=match us with
 | [.a [.i .u8 a0_0,.s a0_1,.i .i64 a0_2,.s a0_3,.b a0_4]]=>A (Tok.mk a0_0 a0_1 a0_2 a0_3 a0_4) (fun r0=>k (.b r0))
 | _=>False
theorem Zd4 {A A2:ZR} (h:FP ro 25 (Zaq A)) (hA:∀a0 K,A2 a0 K→A a0 K):FP ro 25 (Zaq A2):=h.weak (by
 intro us k h;unfold Zaq at h ⊢;split at h
 ·exact hA _ _ h
 ·exact h.elim)
def jag (A30:ZaE) (A55:ZaV) (A56:zA) (a0:Tok) (K:Bool→Prop):Prop:=
 (((decide (a0.kind=1))=true→(((!(a0.text==([]:Bt)))=true→(A30 a0.text (fun y1=>((y1=true→K (decide (a0.kind=a0.kind)&&((([]:Bt)==([]:Bt))&&(decide (a0.num=0)&&((a0.unit==([]:Bt))&&((a0.flag==false)&&true))))))∧(y1=false→K false)))))∧((!(a0.text==([]:Bt)))=false→K false)))∧((decide (a0.kind=1))=false→(((decide (a0.kind=2))=true→(((!(a0.text==([]:Bt)))=true→(A30 a0.text (fun y2=>((y2=true→K (decide (a0.kind=a0.kind)&&((([]:Bt)==([]:Bt))&&(decide (a0.num=0)&&((a0.unit==([]:Bt))&&((a0.flag==false)&&true))))))∧(y2=false→K false)))))∧((!(a0.text==([]:Bt)))=false→K false)))∧((decide (a0.kind=2))=false→(((decide (a0.kind=3))=true→(((!(a0.text==([]:Bt)))=true→(A30 a0.text (fun y3=>((y3=true→K (decide (a0.kind=a0.kind)&&((([]:Bt)==([]:Bt))&&(decide (a0.num=0)&&((a0.unit==([]:Bt))&&((a0.flag==false)&&true))))))∧(y3=false→K false)))))∧((!(a0.text==([]:Bt)))=false→K false)))∧((decide (a0.kind=3))=false→(((decide (a0.kind=4))=true→(((!(a0.text==([]:Bt)))=true→(A30 a0.text (fun y4=>((y4=true→((a0.flag=false→(A55 a0.text (fun y5=>((y5=true→K (decide (a0.kind=a0.kind)&&((([]:Bt)==([]:Bt))&&(decide (a0.num=0)&&((a0.unit==([]:Bt))&&((false==false)&&true))))))∧(y5=false→K false)))))∧(a0.flag=true→K (decide (a0.kind=a0.kind)&&((([]:Bt)==([]:Bt))&&(decide (a0.num=0)&&((a0.unit==([]:Bt))&&((false==false)&&true))))))))∧(y4=false→K false)))))∧((!(a0.text==([]:Bt)))=false→K false)))∧((decide (a0.kind=4))=false→(((decide (a0.kind=5))=true→(A30 a0.text (fun y6=>((y6=true→K (decide (a0.kind=a0.kind)&&((([]:Bt)==([]:Bt))&&(decide (a0.num=0)&&((a0.unit==([]:Bt))&&((a0.flag==false)&&true))))))∧(y6=false→K false)))))∧((decide (a0.kind=5))=false→(((decide (a0.kind=7))=true→(A30 a0.text (fun y7=>((y7=true→K (decide (a0.kind=a0.kind)&&((([]:Bt)==([]:Bt))&&(decide (a0.num=0)&&((a0.unit==([]:Bt))&&((a0.flag==false)&&true))))))∧(y7=false→K false)))))∧((decide (a0.kind=7))=false→(((decide (a0.kind=9))=true→(((decide ((a0.text.length:Int)=(1:Int)))=true→((0≤(0:Int)∧(0:Int)<(a0.text.length:Int))∧(A56 ((a0.text.getD 0 0).toNat:Int) (fun y8=>((y8=true→K (decide (a0.kind=a0.kind)&&((([]:Bt)==([]:Bt))&&(decide (a0.num=0)&&((a0.unit==([]:Bt))&&((a0.flag==false)&&true))))))∧(y8=false→K false))))))∧((decide ((a0.text.length:Int)=(1:Int)))=false→K false)))∧((decide (a0.kind=9))=false→(((decide (a0.kind=10))=true→((((!(a0.unit==([]:Bt)))==(decide (a0.kind=12)))=true→(A30 a0.unit (fun y9=>(((decide ((-1000000000000:Int)≤a0.num))=true→(((decide (a0.num≤1000000000000))=true→(((!a0.flag)=false→((1000:Int)≠0∧(((decide ((a0.num.tmod (1000:Int))=0))=true→((y9=true→(((decide (a0.kind≠11))=false→(((!a0.flag)=true→K (decide (a0.kind=a0.kind)&&((a0.text==([]:Bt))&&(decide ((0:Int)=(0:Int))&&((([]:Bt)==([]:Bt))&&((false==false)&&true))))))∧((!a0.flag)=false→K false)))∧((decide (a0.kind≠11))=true→K (decide (a0.kind=a0.kind)&&((a0.text==([]:Bt))&&(decide ((0:Int)=(0:Int))&&((([]:Bt)==([]:Bt))&&((false==false)&&true))))))))∧(y9=false→K false)))∧((decide ((a0.num.tmod (1000:Int))=0))=false→K false))))∧((!a0.flag)=true→((y9=true→(((decide (a0.kind≠11))=false→(((!a0.flag)=true→K (decide (a0.kind=a0.kind)&&((a0.text==([]:Bt))&&(decide ((0:Int)=(0:Int))&&((([]:Bt)==([]:Bt))&&((false==false)&&true))))))∧((!a0.flag)=false→K false)))∧((decide (a0.kind≠11))=true→K (decide (a0.kind=a0.kind)&&((a0.text==([]:Bt))&&(decide ((0:Int)=(0:Int))&&((([]:Bt)==([]:Bt))&&((false==false)&&true))))))))∧(y9=false→K false)))))∧((decide (a0.num≤1000000000000))=false→K false)))∧((decide ((-1000000000000:Int)≤a0.num))=false→K false)))))∧(((!(a0.unit==([]:Bt)))==(decide (a0.kind=12)))=false→(((decide ((-1000000000000:Int)≤a0.num))=true→(((decide (a0.num≤1000000000000))=true→(((!a0.flag)=false→((1000:Int)≠0∧(((decide ((a0.num.tmod (1000:Int))=0))=true→K false)∧((decide ((a0.num.tmod (1000:Int))=0))=false→K false))))∧((!a0.flag)=true→K false)))∧((decide (a0.num≤1000000000000))=false→K false)))∧((decide ((-1000000000000:Int)≤a0.num))=false→K false)))))∧((decide (a0.kind=10))=false→(((decide (a0.kind=11))=true→((((!(a0.unit==([]:Bt)))==(decide (a0.kind=12)))=true→(A30 a0.unit (fun y10=>(((decide ((-1000000000000:Int)≤a0.num))=true→(((decide (a0.num≤1000000000000))=true→(((!a0.flag)=false→((1000:Int)≠0∧(((decide ((a0.num.tmod (1000:Int))=0))=true→((y10=true→(((decide (a0.kind≠11))=false→(((!a0.flag)=true→K (decide (a0.kind=a0.kind)&&((a0.text==([]:Bt))&&(decide ((0:Int)=(0:Int))&&((([]:Bt)==([]:Bt))&&((false==false)&&true))))))∧((!a0.flag)=false→K false)))∧((decide (a0.kind≠11))=true→K (decide (a0.kind=a0.kind)&&((a0.text==([]:Bt))&&(decide ((0:Int)=(0:Int))&&((([]:Bt)==([]:Bt))&&((false==false)&&true))))))))∧(y10=false→K false)))∧((decide ((a0.num.tmod (1000:Int))=0))=false→K false))))∧((!a0.flag)=true→((y10=true→(((decide (a0.kind≠11))=false→(((!a0.flag)=true→K (decide (a0.kind=a0.kind)&&((a0.text==([]:Bt))&&(decide ((0:Int)=(0:Int))&&((([]:Bt)==([]:Bt))&&((false==false)&&true))))))∧((!a0.flag)=false→K false)))∧((decide (a0.kind≠11))=true→K (decide (a0.kind=a0.kind)&&((a0.text==([]:Bt))&&(decide ((0:Int)=(0:Int))&&((([]:Bt)==([]:Bt))&&((false==false)&&true))))))))∧(y10=false→K false)))))∧((decide (a0.num≤1000000000000))=false→K false)))∧((decide ((-1000000000000:Int)≤a0.num))=false→K false)))))∧(((!(a0.unit==([]:Bt)))==(decide (a0.kind=12)))=false→(((decide ((-1000000000000:Int)≤a0.num))=true→(((decide (a0.num≤1000000000000))=true→(((!a0.flag)=false→((1000:Int)≠0∧(((decide ((a0.num.tmod (1000:Int))=0))=true→K false)∧((decide ((a0.num.tmod (1000:Int))=0))=false→K false))))∧((!a0.flag)=true→K false)))∧((decide (a0.num≤1000000000000))=false→K false)))∧((decide ((-1000000000000:Int)≤a0.num))=false→K false)))))∧((decide (a0.kind=11))=false→(((decide (a0.kind=12))=true→((((!(a0.unit==([]:Bt)))==(decide (a0.kind=12)))=true→(A30 a0.unit (fun y11=>(((decide ((-1000000000000:Int)≤a0.num))=true→(((decide (a0.num≤1000000000000))=true→(((!a0.flag)=false→((1000:Int)≠0∧(((decide ((a0.num.tmod (1000:Int))=0))=true→((y11=true→(((decide (a0.kind≠11))=false→(((!a0.flag)=true→K (decide (a0.kind=a0.kind)&&((a0.text==([]:Bt))&&(decide ((0:Int)=(0:Int))&&((([]:Bt)==([]:Bt))&&((false==false)&&true))))))∧((!a0.flag)=false→K false)))∧((decide (a0.kind≠11))=true→K (decide (a0.kind=a0.kind)&&((a0.text==([]:Bt))&&(decide ((0:Int)=(0:Int))&&((([]:Bt)==([]:Bt))&&((false==false)&&true))))))))∧(y11=false→K false)))∧((decide ((a0.num.tmod (1000:Int))=0))=false→K false))))∧((!a0.flag)=true→((y11=true→(((decide (a0.kind≠11))=false→(((!a0.flag)=true→K (decide (a0.kind=a0.kind)&&((a0.text==([]:Bt))&&(decide ((0:Int)=(0:Int))&&((([]:Bt)==([]:Bt))&&((false==false)&&true))))))∧((!a0.flag)=false→K false)))∧((decide (a0.kind≠11))=true→K (decide (a0.kind=a0.kind)&&((a0.text==([]:Bt))&&(decide ((0:Int)=(0:Int))&&((([]:Bt)==([]:Bt))&&((false==false)&&true))))))))∧(y11=false→K false)))))∧((decide (a0.num≤1000000000000))=false→K false)))∧((decide ((-1000000000000:Int)≤a0.num))=false→K false)))))∧(((!(a0.unit==([]:Bt)))==(decide (a0.kind=12)))=false→(((decide ((-1000000000000:Int)≤a0.num))=true→(((decide (a0.num≤1000000000000))=true→(((!a0.flag)=false→((1000:Int)≠0∧(((decide ((a0.num.tmod (1000:Int))=0))=true→K false)∧((decide ((a0.num.tmod (1000:Int))=0))=false→K false))))∧((!a0.flag)=true→K false)))∧((decide (a0.num≤1000000000000))=false→K false)))∧((decide ((-1000000000000:Int)≤a0.num))=false→K false)))))∧((decide (a0.kind=12))=false→(((decide (a0.kind=6))=true→K false)∧((decide (a0.kind=6))=false→(((decide (a0.kind=8))=true→K false)∧((decide (a0.kind=8))=false→(((decide ((1:Int)≤a0.kind))=true→(((decide (a0.kind≤24))=true→K (decide (a0.kind=a0.kind)&&((a0.text==([]:Bt))&&(decide (a0.num=0)&&((a0.unit==([]:Bt))&&((a0.flag==false)&&true))))))∧((decide (a0.kind≤24))=false→K false)))∧((decide ((1:Int)≤a0.kind))=false→K false))))))))))))))))))))))))))
def zdP (A30:ZaE) (A55:ZaV) (A56:zA):jj sg:=tab [(30,con [none] (jat A30)),(55,con [none] (jaM A55)),(56,con [none] (jR A56))]
theorem Zfx (A30:ZaE) (A55:ZaV) (A56:zA) (h30:FP ro 30 (jat A30)) (h55:FP ro 55 (jaM A55)) (h56:FP ro 56 (jR A56)) (o0:Nat→Prop):CP ro o0 (zdP A30 A55 A56):=(Za (Zc h30) (Za (Zc h55) (Za (Zc h56) Zd))) o0
theorem Jfx (A30:ZaE) (A55:ZaV) (A56:zA) (a0:Tok) (k:W→Prop):fnT syo Tryz.prog GT (zdP A30 A55 A56) noL Tryz.f25.ntmps (za Tryz.f25) [none] Tryz.f25.results.toList [.a [.i .u8 a0.kind,.s a0.text,.i .i64 a0.num,.s a0.unit,.b a0.flag]] k=jag A30 A55 A56 a0 (fun r0=>k (.b r0)):=by kernel_rfl
theorem zf9 (A30:ZaE) (A55:ZaV) (A56:zA) (h30:FP ro 30 (jat A30)) (h55:FP ro 55 (jaM A55)) (h56:FP ro 56 (jR A56)):FP ro 25 (Zaq (jag A30 A55 A56)):=(zx (rc:=[none]) (f:=25) (fn:=Tryz.f25) (c:=za Tryz.f25) (nt:=Tryz.f25.ntmps) (res:=Tryz.f25.results.toList) (C:=zdP A30 A55 A56) (L:=noL) (fun _ _=>rfl) Tryz.func25 (by kernel_rfl) rfl rfl (Zfx A30 A55 A56 h30 h55 h56) (Ji (l:=[]) (by kernel_rfl) je)).weak (by
 intro us k h;unfold Zaq at h;split at h
 ·skip;rename_i a0_0 a0_1 a0_2 a0_3 a0_4;rw [Jfx A30 A55 A56 (Tok.mk a0_0 a0_1 a0_2 a0_3 a0_4) k];exact h
 ·exact h.elim)
abbrev JaE:=List Tok→(Int→Prop)→Prop
def Jat (A:JaE) (us:List W) (k:W→Prop):Prop:=match us with
 | [.l Cd.tok a0]=>A a0 (fun r0=>k (.i .i64 r0))
 | _=>False
theorem jdP {A A2:JaE} (h:FP ro 15 (Jat A)) (hA:∀a0 K,A2 a0 K→A a0 K):FP ro 15 (Jat A2):=h.weak (by
 intro us k h;unfold Jat at h ⊢;split at h
 ·exact hA _ _ h
 ·exact h.elim)
def zf (A25:ZR) (A33:zJ):Nat→List Tok→Int→(Unit→Prop)→(Int→Prop)→Prop
 | 0,_,_,_,_=>False
 | n+1,x0,x3,Ke,Kr=>(((decide (x3<(x0.length:Int)))=true→((0≤x3∧x3<(x0.length:Int))∧(A25 (Tok.mk ((x0.getD x3.toNat (Ze Cd.tok)).kind) ((x0.getD x3.toNat (Ze Cd.tok)).text) ((x0.getD x3.toNat (Ze Cd.tok)).num) ((x0.getD x3.toNat (Ze Cd.tok)).unit) ((x0.getD x3.toNat (Ze Cd.tok)).flag)) (fun y1=>(((!y1)=true→Kr (8:Int))∧((!y1)=false→((0≤x3∧x3<(x0.length:Int))∧(((decide (((x0.getD x3.toNat (Ze Cd.tok)).kind)=(2:Int)))=true→((0≤x3∧x3<(x0.length:Int))∧(A33 ((x0.getD x3.toNat (Ze Cd.tok)).text) ([117,114,108]:Bt) (fun y2=>((y2=true→(I64 (x3+1)∧(((decide ((x3+1)<(x0.length:Int)))=true→((0≤(x3+1)∧(x3+1)<(x0.length:Int))∧(((decide (((x0.getD ((x3+1).toNat) (Ze Cd.tok)).kind)=(13:Int)))=true→(I64 ((x3+1)+1)∧(((decide ((x0.length:Int)≤((x3+1)+1)))=false→((0≤((x3+1)+1)∧((x3+1)+1)<(x0.length:Int))∧(((decide (((x0.getD (((x3+1)+1).toNat) (Ze Cd.tok)).kind)≠(5:Int)))=true→Kr (8:Int))∧((decide (((x0.getD (((x3+1)+1).toNat) (Ze Cd.tok)).kind)≠(5:Int)))=false→((0≤x3∧x3<(x0.length:Int))∧(((decide (((x0.getD x3.toNat (Ze Cd.tok)).kind)=(9:Int)))=true→((0≤x3∧x3<(x0.length:Int))∧(((((x0.getD x3.toNat (Ze Cd.tok)).text)==([92]:Bt))=true→(I64 (x3+1)∧(((decide ((x3+1)=(x0.length:Int)))=false→(I64 (x3+1)∧((0≤(x3+1)∧(x3+1)<(x0.length:Int))∧(((decide (((x0.getD ((x3+1).toNat) (Ze Cd.tok)).kind)≠(13:Int)))=true→Kr (8:Int))∧((decide (((x0.getD ((x3+1).toNat) (Ze Cd.tok)).kind)≠(13:Int)))=false→(I64 (x3+1)∧zf A25 A33 n x0 (x3+1) Ke Kr))))))∧((decide ((x3+1)=(x0.length:Int)))=true→Kr (8:Int)))))∧((((x0.getD x3.toNat (Ze Cd.tok)).text)==([92]:Bt))=false→(I64 (x3+1)∧zf A25 A33 n x0 (x3+1) Ke Kr)))))∧((decide (((x0.getD x3.toNat (Ze Cd.tok)).kind)=(9:Int)))=false→(I64 (x3+1)∧zf A25 A33 n x0 (x3+1) Ke Kr))))))))∧((decide ((x0.length:Int)≤((x3+1)+1)))=true→Kr (8:Int)))))∧((decide (((x0.getD ((x3+1).toNat) (Ze Cd.tok)).kind)=(13:Int)))=false→(((decide ((x0.length:Int)≤(x3+1)))=false→((0≤(x3+1)∧(x3+1)<(x0.length:Int))∧(((decide (((x0.getD ((x3+1).toNat) (Ze Cd.tok)).kind)≠(5:Int)))=true→Kr (8:Int))∧((decide (((x0.getD ((x3+1).toNat) (Ze Cd.tok)).kind)≠(5:Int)))=false→((0≤x3∧x3<(x0.length:Int))∧(((decide (((x0.getD x3.toNat (Ze Cd.tok)).kind)=(9:Int)))=true→((0≤x3∧x3<(x0.length:Int))∧(((((x0.getD x3.toNat (Ze Cd.tok)).text)==([92]:Bt))=true→(I64 (x3+1)∧(((decide ((x3+1)=(x0.length:Int)))=false→(I64 (x3+1)∧((0≤(x3+1)∧(x3+1)<(x0.length:Int))∧(((decide (((x0.getD ((x3+1).toNat) (Ze Cd.tok)).kind)≠(13:Int)))=true→Kr (8:Int))∧((decide (((x0.getD ((x3+1).toNat) (Ze Cd.tok)).kind)≠(13:Int)))=false→(I64 (x3+1)∧zf A25 A33 n x0 (x3+1) Ke Kr))))))∧((decide ((x3+1)=(x0.length:Int)))=true→Kr (8:Int)))))∧((((x0.getD x3.toNat (Ze Cd.tok)).text)==([92]:Bt))=false→(I64 (x3+1)∧zf A25 A33 n x0 (x3+1) Ke Kr)))))∧((decide (((x0.getD x3.toNat (Ze Cd.tok)).kind)=(9:Int)))=false→(I64 (x3+1)∧zf A25 A33 n x0 (x3+1) Ke Kr))))))))∧((decide ((x0.length:Int)≤(x3+1)))=true→Kr (8:Int)))))))∧((decide ((x3+1)<(x0.length:Int)))=false→(((decide ((x0.length:Int)≤(x3+1)))=false→((0≤(x3+1)∧(x3+1)<(x0.length:Int))∧(((decide (((x0.getD ((x3+1).toNat) (Ze Cd.tok)).kind)≠(5:Int)))=true→Kr (8:Int))∧((decide (((x0.getD ((x3+1).toNat) (Ze Cd.tok)).kind)≠(5:Int)))=false→((0≤x3∧x3<(x0.length:Int))∧(((decide (((x0.getD x3.toNat (Ze Cd.tok)).kind)=(9:Int)))=true→((0≤x3∧x3<(x0.length:Int))∧(((((x0.getD x3.toNat (Ze Cd.tok)).text)==([92]:Bt))=true→(I64 (x3+1)∧(((decide ((x3+1)=(x0.length:Int)))=false→(I64 (x3+1)∧((0≤(x3+1)∧(x3+1)<(x0.length:Int))∧(((decide (((x0.getD ((x3+1).toNat) (Ze Cd.tok)).kind)≠(13:Int)))=true→Kr (8:Int))∧((decide (((x0.getD ((x3+1).toNat) (Ze Cd.tok)).kind)≠(13:Int)))=false→(I64 (x3+1)∧zf A25 A33 n x0 (x3+1) Ke Kr))))))∧((decide ((x3+1)=(x0.length:Int)))=true→Kr (8:Int)))))∧((((x0.getD x3.toNat (Ze Cd.tok)).text)==([92]:Bt))=false→(I64 (x3+1)∧zf A25 A33 n x0 (x3+1) Ke Kr)))))∧((decide (((x0.getD x3.toNat (Ze Cd.tok)).kind)=(9:Int)))=false→(I64 (x3+1)∧zf A25 A33 n x0 (x3+1) Ke Kr))))))))∧((decide ((x0.length:Int)≤(x3+1)))=true→Kr (8:Int)))))))∧(y2=false→((0≤x3∧x3<(x0.length:Int))∧(((decide (((x0.getD x3.toNat (Ze Cd.tok)).kind)=(9:Int)))=true→((0≤x3∧x3<(x0.length:Int))∧(((((x0.getD x3.toNat (Ze Cd.tok)).text)==([92]:Bt))=true→(I64 (x3+1)∧(((decide ((x3+1)=(x0.length:Int)))=false→(I64 (x3+1)∧((0≤(x3+1)∧(x3+1)<(x0.length:Int))∧(((decide (((x0.getD ((x3+1).toNat) (Ze Cd.tok)).kind)≠(13:Int)))=true→Kr (8:Int))∧((decide (((x0.getD ((x3+1).toNat) (Ze Cd.tok)).kind)≠(13:Int)))=false→(I64 (x3+1)∧zf A25 A33 n x0 (x3+1) Ke Kr))))))∧((decide ((x3+1)=(x0.length:Int)))=true→Kr (8:Int)))))∧((((x0.getD x3.toNat (Ze Cd.tok)).text)==([92]:Bt))=false→(I64 (x3+1)∧zf A25 A33 n x0 (x3+1) Ke Kr)))))∧((decide (((x0.getD x3.toNat (Ze Cd.tok)).kind)=(9:Int)))=false→(I64 (x3+1)∧zf A25 A33 n x0 (x3+1) Ke Kr))))))))))∧((decide (((x0.getD x3.toNat (Ze Cd.tok)).kind)=(2:Int)))=false→((0≤x3∧x3<(x0.length:Int))∧(((decide (((x0.getD x3.toNat (Ze Cd.tok)).kind)=(9:Int)))=true→((0≤x3∧x3<(x0.length:Int))∧(((((x0.getD x3.toNat (Ze Cd.tok)).text)==([92]:Bt))=true→(I64 (x3+1)∧(((decide ((x3+1)=(x0.length:Int)))=false→(I64 (x3+1)∧((0≤(x3+1)∧(x3+1)<(x0.length:Int))∧(((decide (((x0.getD ((x3+1).toNat) (Ze Cd.tok)).kind)≠(13:Int)))=true→Kr (8:Int))∧((decide (((x0.getD ((x3+1).toNat) (Ze Cd.tok)).kind)≠(13:Int)))=false→(I64 (x3+1)∧zf A25 A33 n x0 (x3+1) Ke Kr))))))∧((decide ((x3+1)=(x0.length:Int)))=true→Kr (8:Int)))))∧((((x0.getD x3.toNat (Ze Cd.tok)).text)==([92]:Bt))=false→(I64 (x3+1)∧zf A25 A33 n x0 (x3+1) Ke Kr)))))∧((decide (((x0.getD x3.toNat (Ze Cd.tok)).kind)=(9:Int)))=false→(I64 (x3+1)∧zf A25 A33 n x0 (x3+1) Ke Kr)))))))))))))∧((decide (x3<(x0.length:Int)))=false→Ke ()))
def Zc1 (A25:ZR) (A33:zJ) (a0:List Tok) (K:Int→Prop):Prop:=
 (((decide ((1500:Int)<(a0.length:Int)))=true→K (4:Int))∧((decide ((1500:Int)<(a0.length:Int)))=false→(∃m,zf A25 A33 m a0 (0:Int) (fun _=>K (0:Int)) (fun y1=>K y1))))
def zcb (A25:ZR) (A33:zJ):jj sg:=tab [(25,con [none] (Zaq A25)),(33,con [none,none] (zaa A33))]
theorem Zc9 (A25:ZR) (A33:zJ) (h25:FP ro 25 (Zaq A25)) (h33:FP ro 33 (zaa A33)) (o0:Nat→Prop):CP ro o0 (zcb A25 A33):=(Za (Zc h25) (Za (Zc h33) Zd)) o0
abbrev jbH:Type:=((List (sg.Den Cd.tok))×Int×Unit)
abbrev Yb_r3_Check_4:Type:=Unit
def ls_r3_Check_4:LS syo jbH Yb_r3_Check_4:=⟨[],Jc 0 (JO syo Cd.tok) (Jc 3 (Je syo .i64) (JD syo)),zE syo,0,[]⟩
def le_r3_Check_4:LS syo Unit Unit:=⟨[],JD syo,zE syo,0,[]⟩
def lr_r3_Check_4:LS syo (Int×Unit) Unit:=⟨[],Jc 2 (Je syo .i64) (JD syo),zE syo,0,[]⟩
def ja1 (A25:ZR) (A33:zJ) (n:Nat) (x:jbH×Yb_r3_Check_4) (K:Ex→Z sg→Prop):Prop:=zf A25 A33 n x.1.1 x.1.2.1 (fun _=>K (.exit 0) (le_r3_Check_4.put ((),()))) (fun y0=>K .ret (lr_r3_Check_4.put ((y0,()),())))
def ze4 (A25:ZR) (A33:zJ) (z:Z sg) (K:Ex→Z sg→Prop):Prop:=ls_r3_Check_4.get z (fun x=>∃n,ja1 A25 A33 n x K)
def Ja3 (A25:ZR) (A33:zJ):jV sg:=Zcn [(4,ze4 A25 A33)]
theorem Jew (A25:ZR) (A33:zJ) (n:Nat) (x:jbH×Yb_r3_Check_4) (K:Ex→Z sg→Prop):Js (ls_r3_Check_4.put x) (fun z=>sC syo Tryz.prog GT (zcb A25 A33) (Ja3 A25 A33) Tryz.f15.ntmps (zb (za Tryz.f15) 0) z (rnd ls_r3_Check_4 (czT 0 le_r3_Check_4 lr_r3_Check_4) (fun x=>ja1 A25 A33 n x K) K))=ja1 A25 A33 (n+1) x K:=by kernel_rfl
theorem zex (A25:ZR) (A33:zJ) (z:Z sg) (K:Ex→Z sg→Prop):(Ja3 A25 A33) (zb (za Tryz.f15) 0) z K=ls_r3_Check_4.get z (fun x=>∃n,ja1 A25 A33 n x K):=by kernel_rfl
theorem jex (A25:ZR) (A33:zJ) (h25:FP ro 25 (Zaq A25)) (h33:FP ro 33 (zaa A33)):∀(o0:Nat→Prop) (B:Bs sg),B.E.length≤0→∀z K,(Ja3 A25 A33) (zb (za Tryz.f15) 0) z K→Sx.Sem syo Tryz.prog GT (ovD ro) o0 ro Tryz.f15.ntmps B (.loop (zb (za Tryz.f15) 0)) z K:=
 ZE (Zc9 A25 A33 h25 h33) (Ji (l:=[]) (by kernel_rfl) je) ls_r3_Check_4 (by decide) (czT 0 le_r3_Check_4 lr_r3_Check_4) (fun _ _ hB=>JU 0 le_r3_Check_4 lr_r3_Check_4 (Nat.le_trans hB (by decide)) (Nat.le_trans hB (by decide))) (fun _ _ h=>h) (Jew A25 A33) (zex A25 A33)
theorem zfy (A25:ZR) (A33:zJ) (h25:FP ro 25 (Zaq A25)) (h33:FP ro 33 (zaa A33)):Jb7 syo Tryz.prog GT (ovD ro) ro (Ja3 A25 A33) 0 Tryz.f15.ntmps (za Tryz.f15):=Ji (l:=[(zb (za Tryz.f15) 0)]) (by kernel_rfl) (jE (jex A25 A33 h25 h33) je)
theorem je4 (A25:ZR) (A33:zJ) (a0:List Tok) (k:W→Prop):fnT syo Tryz.prog GT (zcb A25 A33) (Ja3 A25 A33) Tryz.f15.ntmps (za Tryz.f15) [none] Tryz.f15.results.toList [.l Cd.tok a0] k=Zc1 A25 A33 a0 (fun r0=>k (.i .i64 r0)):=by kernel_rfl
theorem jfy (A25:ZR) (A33:zJ) (h25:FP ro 25 (Zaq A25)) (h33:FP ro 33 (zaa A33)):FP ro 15 (Jat (Zc1 A25 A33)):=(zx (rc:=[none]) (f:=15) (fn:=Tryz.f15) (c:=za Tryz.f15) (nt:=Tryz.f15.ntmps) (res:=Tryz.f15.results.toList) (C:=zcb A25 A33) (L:=(Ja3 A25 A33)) (fun _ _=>rfl) Tryz.func15 (by kernel_rfl) rfl rfl (Zc9 A25 A33 h25 h33) (zfy A25 A33 h25 h33)).weak (by
 intro us k h;unfold Jat at h;split at h
 ·skip;rename_i a0;rw [je4 A25 A33 a0 k];exact h
 ·exact h.elim)
abbrev zaF:=List Tok→(Bool→Prop)→Prop
def zau (A:zaF) (us:List W) (k:W→Prop):Prop:=match us with
 | [.l Cd.tok a0]=>A a0 (fun r0=>k (.b r0))
 | _=>False
theorem ZdP {A A2:zaF} (h:FP ro 7 (zau A)) (hA:∀a0 K,A2 a0 K→A a0 K):FP ro 7 (zau A2):=h.weak (by
 intro us k h;unfold zau at h ⊢;split at h
 ·exact hA _ _ h
 ·exact h.elim)
def JY:Nat→List Tok→Int→Int→(Unit→Prop)→(Bool→Prop)→Prop
 | 0,_,_,_,_,_=>False
 | n+1,x0,x3,x4,Ke,Kr=>(((decide (x4<(x0.length:Int)))=true→((0≤x4∧x4<(x0.length:Int))∧((0≤x4∧x4<(x0.length:Int))∧(I64 ((((x0.getD x4.toNat (Ze Cd.tok)).text).length:Int)+(((x0.getD x4.toNat (Ze Cd.tok)).unit).length:Int))∧(I64 (x3+((((x0.getD x4.toNat (Ze Cd.tok)).text).length:Int)+(((x0.getD x4.toNat (Ze Cd.tok)).unit).length:Int)))∧(((decide ((1000:Int)<(x3+((((x0.getD x4.toNat (Ze Cd.tok)).text).length:Int)+(((x0.getD x4.toNat (Ze Cd.tok)).unit).length:Int)))))=true→Kr true)∧((decide ((1000:Int)<(x3+((((x0.getD x4.toNat (Ze Cd.tok)).text).length:Int)+(((x0.getD x4.toNat (Ze Cd.tok)).unit).length:Int)))))=false→(I64 (x4+1)∧JY n x0 (x3+((((x0.getD x4.toNat (Ze Cd.tok)).text).length:Int)+(((x0.getD x4.toNat (Ze Cd.tok)).unit).length:Int))) (x4+1) Ke Kr))))))))∧((decide (x4<(x0.length:Int)))=false→Ke ()))
def Jc1 (a0:List Tok) (K:Bool→Prop):Prop:=
 (((decide ((100:Int)<(a0.length:Int)))=true→(((decide ((a0.length:Int)≤(1500:Int)))=false→(((decide ((1510:Int)<(a0.length:Int)))=true→K true)∧((decide ((1510:Int)<(a0.length:Int)))=false→(∃m,JY m a0 (0:Int) (0:Int) (fun _=>K false) (fun y1=>K y1)))))∧((decide ((a0.length:Int)≤(1500:Int)))=true→K true)))∧((decide ((100:Int)<(a0.length:Int)))=false→(((decide ((1510:Int)<(a0.length:Int)))=true→K true)∧((decide ((1510:Int)<(a0.length:Int)))=false→(∃m,JY m a0 (0:Int) (0:Int) (fun _=>K false) (fun y2=>K y2))))))
def jcb:jj sg:=tab []
theorem Jc9 (o0:Nat→Prop):CP ro o0 (jcb):=Zd o0
abbrev ZbH:Type:=((List (sg.Den Cd.tok))×Int×Int×Unit)
abbrev Yb_r3_Great_5:Type:=Unit
def ls_r3_Great_5:LS syo ZbH Yb_r3_Great_5:=⟨[],Jc 0 (JO syo Cd.tok) (Jc 3 (Je syo .i64) (Jc 4 (Je syo .i64) (JD syo))),zE syo,0,[]⟩
def le_r3_Great_5:LS syo Unit Unit:=⟨[],JD syo,zE syo,0,[]⟩
def lr_r3_Great_5:LS syo (Bool×Unit) Unit:=⟨[],Jc 2 (jn syo) (JD syo),zE syo,0,[]⟩
def Za1 (n:Nat) (x:ZbH×Yb_r3_Great_5) (K:Ex→Z sg→Prop):Prop:=JY n x.1.1 x.1.2.1 x.1.2.2.1 (fun _=>K (.exit 0) (le_r3_Great_5.put ((),()))) (fun y0=>K .ret (lr_r3_Great_5.put ((y0,()),())))
def Ze4 (z:Z sg) (K:Ex→Z sg→Prop):Prop:=ls_r3_Great_5.get z (fun x=>∃n,Za1 n x K)
def za4:jV sg:=Zcn [(5,Ze4)]
theorem Zex (n:Nat) (x:ZbH×Yb_r3_Great_5) (K:Ex→Z sg→Prop):Js (ls_r3_Great_5.put x) (fun z=>sC syo Tryz.prog GT (jcb) (za4) Tryz.f7.ntmps (zb (za Tryz.f7) 0) z (rnd ls_r3_Great_5 (czT 0 le_r3_Great_5 lr_r3_Great_5) (fun x=>Za1 n x K) K))=Za1 (n+1) x K:=by kernel_rfl
theorem Jex (z:Z sg) (K:Ex→Z sg→Prop):(za4) (zb (za Tryz.f7) 0) z K=ls_r3_Great_5.get z (fun x=>∃n,Za1 n x K):=by kernel_rfl
theorem zey:∀(o0:Nat→Prop) (B:Bs sg),B.E.length≤0→∀z K,(za4) (zb (za Tryz.f7) 0) z K→Sx.Sem syo Tryz.prog GT (ovD ro) o0 ro Tryz.f7.ntmps B (.loop (zb (za Tryz.f7) 0)) z K:=
 ZE (Jc9) (Ji (l:=[]) (by kernel_rfl) je) ls_r3_Great_5 (by decide) (czT 0 le_r3_Great_5 lr_r3_Great_5) (fun _ _ hB=>JU 0 le_r3_Great_5 lr_r3_Great_5 (Nat.le_trans hB (by decide)) (Nat.le_trans hB (by decide))) (fun _ _ h=>h) (Zex) (Jex)
theorem Zfy:Jb7 syo Tryz.prog GT (ovD ro) ro (za4) 0 Tryz.f7.ntmps (za Tryz.f7):=Ji (l:=[(zb (za Tryz.f7) 0)]) (by kernel_rfl) (jE (zey) je)
theorem Je4 (a0:List Tok) (k:W→Prop):fnT syo Tryz.prog GT (jcb) (za4) Tryz.f7.ntmps (za Tryz.f7) [none] Tryz.f7.results.toList [.l Cd.tok a0] k=Jc1 a0 (fun r0=>k (.b r0)):=by kernel_rfl
theorem Jfy:FP ro 7 (zau (Jc1)):=(zx (rc:=[none]) (f:=7) (fn:=Tryz.f7) (c:=za Tryz.f7) (nt:=Tryz.f7.ntmps) (res:=Tryz.f7.results.toList) (C:=jcb) (L:=(za4)) (fun _ _=>rfl) Tryz.func7 (by kernel_rfl) rfl rfl (Jc9) (Zfy)).weak (by
 intro us k h;unfold zau at h;split at h
 ·skip;rename_i a0;rw [Je4 a0 k];exact h
 ·exact h.elim)
end Go.Proofs.YtmnegokadegioaaGreatDoor
