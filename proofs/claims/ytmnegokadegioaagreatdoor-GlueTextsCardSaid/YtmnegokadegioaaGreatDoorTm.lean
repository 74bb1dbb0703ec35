/-
 The reference of the check of tokens, followed. Nothing is claimed here.
-/
import Derived.Test.YtmnegokadegioaaGreatDoorTj
import Derived.Test.YtmnegokadegioaaGreatDoorTl
namespace Go.Proofs.YtmnegokadegioaaGreatDoor
open Go.Vm Go.Sx Go.RowKit
variable {ro:Nat}
abbrev JJ:=Bt→Bt→(Bool→Prop)→Prop
def zac (A:JJ) (us:List W) (k:W→Prop):Prop:=match us with
 | [.s a0,.s a1]=>A a0 a1 (fun r0=>k (.b r0))
 | _=>False
theorem ZdP {A A2:JJ} (h:FP ro 33 (zac A)) (hA:∀a0 a1 K,A2 a0 a1 K→A a0 a1 K):FP ro 33 (zac A2):=h.weak (by
 intro us k h;unfold zac at h ⊢;split at h
 ·exact hA _ _ _ h
 ·exact h.elim)
def zc3 (A66:jaG) (a0:Bt) (a1:Bt) (K:Bool→Prop):Prop:=
 (A66 a0 (fun y1=>(A66 a1 (fun y2=>K (y1==y2)))))
def jc3 (A66:jaG):Zj sg:=tab [(66,con [none] (Zav A66))]
theorem Je3 (A66:jaG) (h66:FP ro 66 (Zav A66)) (o0:Nat→Prop):CP ro o0 (jc3 A66):=(Za (Zc h66) jd) o0
theorem ze4 (A66:jaG) (a0:Bt) (a1:Bt) (k:W→Prop):fnT syo Tryz.prog GT (jc3 A66) noL Tryz.f33.ntmps (za Tryz.f33) [none] Tryz.f33.results.toList [.s a0,.s a1] k=zc3 A66 a0 a1 (fun r0=>k (.b r0)):=by kernel_rfl
theorem Jfz (A66:jaG) (h66:FP ro 66 (Zav A66)):FP ro 33 (zac (zc3 A66)):=(jx (rc:=[none]) (f:=33) (fn:=Tryz.f33) (c:=za Tryz.f33) (nt:=Tryz.f33.ntmps) (res:=Tryz.f33.results.toList) (C:=jc3 A66) (L:=noL) (fun _ _=>rfl) Tryz.func33 (by kernel_rfl) rfl rfl (Je3 A66 h66) (Ji (l:=[]) (by kernel_rfl) Zd)).weak (by
 intro us k h;unfold zac at h;split at h
 ·rw [ze4];exact h
 ·exact h.elim)
abbrev ZaG:=Int→(Bool→Prop)→Prop
def zaw (A:ZaG) (us:List W) (k:W→Prop):Prop:=match us with
 | [.i .u8 a0]=>A a0 (fun r0=>k (.b r0))
 | _=>False
theorem JdP {A A2:ZaG} (h:FP ro 63 (zaw A)) (hA:∀a0 K,A2 a0 K→A a0 K):FP ro 63 (zaw A2):=h.weak (by
 intro us k h;unfold zaw at h ⊢;split at h
 ·exact hA _ _ h
 ·exact h.elim)
def Zc3 (a0:Int) (K:Bool→Prop):Prop:=
 (((decide ((48:Int)≤a0))=true→K (decide (a0≤57)))∧((decide ((48:Int)≤a0))=false→K false))
def Jc3:Zj sg:=tab []
theorem je4 (o0:Nat→Prop):CP ro o0 (Jc3):=jd o0
theorem Ze4 (a0:Int) (k:W→Prop):fnT syo Tryz.prog GT (Jc3) noL Tryz.f63.ntmps (za Tryz.f63) [none] Tryz.f63.results.toList [.i .u8 a0] k=Zc3 a0 (fun r0=>k (.b r0)):=by kernel_rfl
theorem zfA:FP ro 63 (zaw (Zc3)):=(jx (rc:=[none]) (f:=63) (fn:=Tryz.f63) (c:=za Tryz.f63) (nt:=Tryz.f63.ntmps) (res:=Tryz.f63.results.toList) (C:=Jc3) (L:=noL) (fun _ _=>rfl) Tryz.func63 (by kernel_rfl) rfl rfl (je4) (Ji (l:=[]) (by kernel_rfl) Zd)).weak (by
 intro us k h;unfold zaw at h;split at h
 ·rw [Ze4];exact h
 ·exact h.elim)
abbrev jS:=List Tok→List Tok→(Bool→Prop)→Prop
def jas (A:jS) (us:List W) (k:W→Prop):Prop:=match us with
 | [.l Cd.tok a0,.l Cd.tok a1]=>A a0 a1 (fun r0=>k (.b r0))
 | _=>False
theorem jd7 {A A2:jS} (h:FP ro 16 (jas A)) (hA:∀a0 a1 K,A2 a0 a1 K→A a0 a1 K):FP ro 16 (jas A2):=h.weak (by
 intro us k h;unfold jas at h ⊢;split at h
 ·exact hA _ _ _ h
 ·exact h.elim)
def Zas:Nat→List Tok→List Tok→Int→(Unit→Prop)→(Bool→Prop)→Prop
 | 0,_,_,_,_,_=>False
 | n+1,x0,x1,x5,Ke,Kr=>(((decide (x5<(x0.length:Int)))=true→((0≤x5∧x5<(x0.length:Int))∧((0≤x5∧x5<(x1.length:Int))∧(((!(decide ((x0.getD x5.toNat (Ze Cd.tok)).kind=(x1.getD x5.toNat (Ze Cd.tok)).kind)&&((((x0.getD x5.toNat (Ze Cd.tok)).text)==((x1.getD x5.toNat (Ze Cd.tok)).text))&&(decide ((x0.getD x5.toNat (Ze Cd.tok)).num=(x1.getD x5.toNat (Ze Cd.tok)).num)&&((((x0.getD x5.toNat (Ze Cd.tok)).unit)==((x1.getD x5.toNat (Ze Cd.tok)).unit))&&((((x0.getD x5.toNat (Ze Cd.tok)).flag)==((x1.getD x5.toNat (Ze Cd.tok)).flag))&&true))))))=true→Kr false)∧((!(decide ((x0.getD x5.toNat (Ze Cd.tok)).kind=(x1.getD x5.toNat (Ze Cd.tok)).kind)&&((((x0.getD x5.toNat (Ze Cd.tok)).text)==((x1.getD x5.toNat (Ze Cd.tok)).text))&&(decide ((x0.getD x5.toNat (Ze Cd.tok)).num=(x1.getD x5.toNat (Ze Cd.tok)).num)&&((((x0.getD x5.toNat (Ze Cd.tok)).unit)==((x1.getD x5.toNat (Ze Cd.tok)).unit))&&((((x0.getD x5.toNat (Ze Cd.tok)).flag)==((x1.getD x5.toNat (Ze Cd.tok)).flag))&&true))))))=false→(I64 (x5+1)∧Zas n x0 x1 (x5+1) Ke Kr))))))∧((decide (x5<(x0.length:Int)))=false→Ke ()))
def zdQ (a0:List Tok) (a1:List Tok) (K:Bool→Prop):Prop:=
 (((decide ((a0.length:Int)≠(a1.length:Int)))=true→K false)∧((decide ((a0.length:Int)≠(a1.length:Int)))=false→(∃m,Zas m a0 a1 (0:Int) (fun _=>K true) (fun y1=>K y1))))
def JcI:Zj sg:=tab []
theorem jdQ (o0:Nat→Prop):CP ro o0 (JcI):=jd o0
abbrev jb5:Type:=((List (sg.Den Cd.tok))×(List (sg.Den Cd.tok))×Int×Unit)
abbrev Yb_r2_Same_4:Type:=Unit
def ls_r2_Same_4:LS syo jb5 Yb_r2_Same_4:=⟨[],Jc 0 (zN syo Cd.tok) (Jc 1 (zN syo Cd.tok) (Jc 5 (Je syo .i64) (JC syo))),zD syo,0,[]⟩
def le_r2_Same_4:LS syo Unit Unit:=⟨[],JC syo,zD syo,0,[]⟩
def lr_r2_Same_4:LS syo (Bool×Unit) Unit:=⟨[],Jc 4 (Zn syo) (JC syo),zD syo,0,[]⟩
def Jbh (n:Nat) (x:jb5×Yb_r2_Same_4) (K:Ex→Z sg→Prop):Prop:=Zas n x.1.1 x.1.2.1 x.1.2.2.1 (fun _=>K (.exit 0) (le_r2_Same_4.put ((),()))) (fun y0=>K .ret (lr_r2_Same_4.put ((y0,()),())))
def jfA (z:Z sg) (K:Ex→Z sg→Prop):Prop:=ls_r2_Same_4.get z (fun x=>∃n,Jbh n x K)
def zbx:ZW sg:=jcm [(4,jfA)]
theorem Je4 (n:Nat) (x:jb5×Yb_r2_Same_4) (K:Ex→Z sg→Prop):zt (ls_r2_Same_4.put x) (fun z=>sC syo Tryz.prog GT (JcI) (zbx) Tryz.f16.ntmps (zb (za Tryz.f16) 0) z (rnd ls_r2_Same_4 (czT 0 le_r2_Same_4 lr_r2_Same_4) (fun x=>Jbh n x K) K))=Jbh (n+1) x K:=by kernel_rfl
theorem ze5 (z:Z sg) (K:Ex→Z sg→Prop):(zbx) (zb (za Tryz.f16) 0) z K=ls_r2_Same_4.get z (fun x=>∃n,Jbh n x K):=by kernel_rfl
theorem je5:∀(o0:Nat→Prop) (B:Bs sg),B.E.length≤0→∀z K,(zbx) (zb (za Tryz.f16) 0) z K→Sx.Sem syo Tryz.prog GT (ovD ro) o0 ro Tryz.f16.ntmps B (.loop (zb (za Tryz.f16) 0)) z K:=
 ZD (jdQ) (Ji (l:=[]) (by kernel_rfl) Zd) ls_r2_Same_4 (by decide) (czT 0 le_r2_Same_4 lr_r2_Same_4) (fun _ _ hB=>ZV 0 le_r2_Same_4 lr_r2_Same_4 (Nat.le_trans hB (by decide)) (Nat.le_trans hB (by decide))) (fun _ _ h=>h) (Je4) (ze5)
theorem Jga:jbV syo Tryz.prog GT (ovD ro) ro (zbx) 0 Tryz.f16.ntmps (za Tryz.f16):=Ji (l:=[(zb (za Tryz.f16) 0)]) (by kernel_rfl) (jD (je5) Zd)
theorem ZfA (a0:List Tok) (a1:List Tok) (k:W→Prop):fnT syo Tryz.prog GT (JcI) (zbx) Tryz.f16.ntmps (za Tryz.f16) [none] Tryz.f16.results.toList [.l Cd.tok a0,.l Cd.tok a1] k=zdQ a0 a1 (fun r0=>k (.b r0)):=by kernel_rfl
theorem zgb:FP ro 16 (jas (zdQ)):=(jx (rc:=[none]) (f:=16) (fn:=Tryz.f16) (c:=za Tryz.f16) (nt:=Tryz.f16.ntmps) (res:=Tryz.f16.results.toList) (C:=JcI) (L:=(zbx)) (fun _ _=>rfl) Tryz.func16 (by kernel_rfl) rfl rfl (jdQ) (Jga)).weak (by
 intro us k h;unfold jas at h;split at h
 ·skip;rename_i a0 a1;rw [ZfA a0 a1 k];exact h
 ·exact h.elim)
abbrev JA:=Int→(Bool→Prop)→Prop
def ZS (A:JA) (us:List W) (k:W→Prop):Prop:=match us with
 | [.i .u8 a0]=>A a0 (fun r0=>k (.b r0))
 | _=>False
abbrev JaG:=Bt→(Bool→Prop)→Prop
def jaw (A:JaG) (us:List W) (k:W→Prop):Prop:=match us with
 | [.s a0]=>A a0 (fun r0=>k (.b r0))
 | _=>False
theorem ZdQ {A A2:JaG} (h:FP ro 30 (jaw A)) (hA:∀a0 K,A2 a0 K→A a0 K):FP ro 30 (jaw A2):=h.weak (by
 intro us k h;unfold jaw at h ⊢;split at h
 ·exact hA _ _ h
 ·exact h.elim)
def Jaf:Nat→Bt→Int→(Unit→Prop)→(Bool→Prop)→Prop
 | 0,_,_,_,_=>False
 | n+1,x0,x3,Ke,Kr=>(((decide (x3<(x0.length:Int)))=true→((0≤x3∧x3<(x0.length:Int))∧(((decide (((x0.getD x3.toNat 0).toNat:Int)=(0:Int)))=true→Kr false)∧((decide (((x0.getD x3.toNat 0).toNat:Int)=(0:Int)))=false→(I64 (x3+1)∧Jaf n x0 (x3+1) Ke Kr)))))∧((decide (x3<(x0.length:Int)))=false→Ke ()))
def zc4 (a0:Bt) (K:Bool→Prop):Prop:=
 (∃m,Jaf m a0 (0:Int) (fun _=>K true) (fun y1=>K y1))
def zcd:Zj sg:=tab []
theorem Zdb (o0:Nat→Prop):CP ro o0 (zcd):=jd o0
abbrev zbK:Type:=((Bt)×Int×Unit)
abbrev Yb_r3_whole_2:Type:=Unit
def ls_r3_whole_2:LS syo zbK Yb_r3_whole_2:=⟨[],Jc 0 (Zl syo) (Jc 3 (Je syo .i64) (JC syo)),zD syo,0,[]⟩
def le_r3_whole_2:LS syo Unit Unit:=⟨[],JC syo,zD syo,0,[]⟩
def lr_r3_whole_2:LS syo (Bool×Unit) Unit:=⟨[],Jc 2 (Zn syo) (JC syo),zD syo,0,[]⟩
def za3 (n:Nat) (x:zbK×Yb_r3_whole_2) (K:Ex→Z sg→Prop):Prop:=Jaf n x.1.1 x.1.2.1 (fun _=>K (.exit 0) (le_r3_whole_2.put ((),()))) (fun y0=>K .ret (lr_r3_whole_2.put ((y0,()),())))
def Ze5 (z:Z sg) (K:Ex→Z sg→Prop):Prop:=ls_r3_whole_2.get z (fun x=>∃n,za3 n x K)
def Ja5:ZW sg:=jcm [(2,Ze5)]
theorem zez (n:Nat) (x:zbK×Yb_r3_whole_2) (K:Ex→Z sg→Prop):zt (ls_r3_whole_2.put x) (fun z=>sC syo Tryz.prog GT (zcd) (Ja5) Tryz.f30.ntmps (zb (za Tryz.f30) 0) z (rnd ls_r3_whole_2 (czT 0 le_r3_whole_2 lr_r3_whole_2) (fun x=>za3 n x K) K))=za3 (n+1) x K:=by kernel_rfl
theorem jez (z:Z sg) (K:Ex→Z sg→Prop):(Ja5) (zb (za Tryz.f30) 0) z K=ls_r3_whole_2.get z (fun x=>∃n,za3 n x K):=by kernel_rfl
theorem Zez:∀(o0:Nat→Prop) (B:Bs sg),B.E.length≤0→∀z K,(Ja5) (zb (za Tryz.f30) 0) z K→Sx.Sem syo Tryz.prog GT (ovD ro) o0 ro Tryz.f30.ntmps B (.loop (zb (za Tryz.f30) 0)) z K:=
 ZD (Zdb) (Ji (l:=[]) (by kernel_rfl) Zd) ls_r3_whole_2 (by decide) (czT 0 le_r3_whole_2 lr_r3_whole_2) (fun _ _ hB=>ZV 0 le_r3_whole_2 lr_r3_whole_2 (Nat.le_trans hB (by decide)) (Nat.le_trans hB (by decide))) (fun _ _ h=>h) (zez) (jez)
theorem JfA:jbV syo Tryz.prog GT (ovD ro) ro (Ja5) 0 Tryz.f30.ntmps (za Tryz.f30):=Ji (l:=[(zb (za Tryz.f30) 0)]) (by kernel_rfl) (jD (Zez) Zd)
theorem Je5 (a0:Bt) (k:W→Prop):fnT syo Tryz.prog GT (zcd) (Ja5) Tryz.f30.ntmps (za Tryz.f30) [none] Tryz.f30.results.toList [.s a0] k=zc4 a0 (fun r0=>k (.b r0)):=by kernel_rfl
theorem zfB:FP ro 30 (jaw (zc4)):=(jx (rc:=[none]) (f:=30) (fn:=Tryz.f30) (c:=za Tryz.f30) (nt:=Tryz.f30.ntmps) (res:=Tryz.f30.results.toList) (C:=zcd) (L:=(Ja5)) (fun _ _=>rfl) Tryz.func30 (by kernel_rfl) rfl rfl (Zdb) (JfA)).weak (by
 intro us k h;unfold jaw at h;split at h
 ·rw [Je5];exact h
 ·exact h.elim)
abbrev jaX:=Bt→(Bool→Prop)→Prop
def JaN (A:jaX) (us:List W) (k:W→Prop):Prop:=match us with
 | [.s a0]=>A a0 (fun r0=>k (.b r0))
 | _=>False
theorem Zd7 {A A2:jaX} (h:FP ro 55 (JaN A)) (hA:∀a0 K,A2 a0 K→A a0 K):FP ro 55 (JaN A2):=h.weak (by
 intro us k h;unfold JaN at h ⊢;split at h
 ·exact hA _ _ h
 ·exact h.elim)
def JdQ (A63:ZaG) (a0:Bt) (K:Bool→Prop):Prop:=
 (((a0==([]:Bt))=true→K false)∧((a0==([]:Bt))=false→((0≤(0:Int)∧(0:Int)<(a0.length:Int))∧(A63 ((a0.getD 0 0).toNat:Int) (fun y1=>((y1=false→(((a0==([45]:Bt))=false→((0≤(0:Int)∧(0:Int)<(a0.length:Int))∧(((decide (((a0.getD 0 0).toNat:Int)=(45:Int)))=true→((0≤(1:Int)∧(1:Int)<(a0.length:Int))∧(A63 ((a0.getD 1 0).toNat:Int) (fun y2=>K y2))))∧((decide (((a0.getD 0 0).toNat:Int)=(45:Int)))=false→K false))))∧((a0==([45]:Bt))=true→K true)))∧(y1=true→K true)))))))
def zdR (A63:ZaG):Zj sg:=tab [(63,con [none] (zaw A63))]
theorem jfB (A63:ZaG) (h63:FP ro 63 (zaw A63)) (o0:Nat→Prop):CP ro o0 (zdR A63):=(Za (Zc h63) jd) o0
theorem ZfB (A63:ZaG) (a0:Bt) (k:W→Prop):fnT syo Tryz.prog GT (zdR A63) noL Tryz.f55.ntmps (za Tryz.f55) [none] Tryz.f55.results.toList [.s a0] k=JdQ A63 a0 (fun r0=>k (.b r0)):=by kernel_rfl
theorem jgb (A63:ZaG) (h63:FP ro 63 (zaw A63)):FP ro 55 (JaN (JdQ A63)):=(jx (rc:=[none]) (f:=55) (fn:=Tryz.f55) (c:=za Tryz.f55) (nt:=Tryz.f55.ntmps) (res:=Tryz.f55.results.toList) (C:=zdR A63) (L:=noL) (fun _ _=>rfl) Tryz.func55 (by kernel_rfl) rfl rfl (jfB A63 h63) (Ji (l:=[]) (by kernel_rfl) Zd)).weak (by
 intro us k h;unfold JaN at h;split at h
 ·rw [ZfB];exact h
 ·exact h.elim)
abbrev JS:=Tok→(Bool→Prop)→Prop
def Jas (A:JS) (us:List W) (k:W→Prop):Prop:=match us with
 | [.a [.i .u8 a0_0,.s a0_1,.i .i64 a0_2,.s a0_3,.b a0_4]]=>A (Tok.mk a0_0 a0_1 a0_2 a0_3 a0_4) (fun r0=>k (.b r0))
 | _=>False
theorem Jd7 {A A2:JS} (h:FP ro 25 (Jas A)) (hA:∀a0 K,A2 a0 K→A a0 K):FP ro 25 (Jas A2):=h.weak (by
 intro us k h;unfold Jas at h ⊢;split at h
 ·exact hA _ _ h
 ·exact h.elim)
def zai (A30:JaG) (A55:jaX) (A56:JA) (a0:Tok) (K:Bool→Prop):Prop:=
 (((decide (a0.kind=1))=true→(((!(a0.text==([]:Bt)))=true→(A30 a0.text (fun y1=>((y1=true→K (decide (a0.kind=a0.kind)&&((([]:Bt)==([]:Bt))&&(decide (a0.num=0)&&((a0.unit==([]:Bt))&&((a0.flag==false)&&true))))))∧(y1=false→K false)))))∧((!(a0.text==([]:Bt)))=false→K false)))∧((decide (a0.kind=1))=false→(((decide (a0.kind=2))=true→(((!(a0.text==([]:Bt)))=true→(A30 a0.text (fun y2=>((y2=true→K (decide (a0.kind=a0.kind)&&((([]:Bt)==([]:Bt))&&(decide (a0.num=0)&&((a0.unit==([]:Bt))&&((a0.flag==false)&&true))))))∧(y2=false→K false)))))∧((!(a0.text==([]:Bt)))=false→K false)))∧((decide (a0.kind=2))=false→(((decide (a0.kind=3))=true→(((!(a0.text==([]:Bt)))=true→(A30 a0.text (fun y3=>((y3=true→K (decide (a0.kind=a0.kind)&&((([]:Bt)==([]:Bt))&&(decide (a0.num=0)&&((a0.unit==([]:Bt))&&((a0.flag==false)&&true))))))∧(y3=false→K false)))))∧((!(a0.text==([]:Bt)))=false→K false)))∧((decide (a0.kind=3))=false→(((decide (a0.kind=4))=true→(((!(a0.text==([]:Bt)))=true→(A30 a0.text (fun y4=>((y4=true→((a0.flag=false→(A55 a0.text (fun y5=>((y5=true→K (decide (a0.kind=a0.kind)&&((([]:Bt)==([]:Bt))&&(decide (a0.num=0)&&((a0.unit==([]:Bt))&&((false==false)&&true))))))∧(y5=false→K false)))))∧(a0.flag=true→K (decide (a0.kind=a0.kind)&&((([]:Bt)==([]:Bt))&&(decide (a0.num=0)&&((a0.unit==([]:Bt))&&((false==false)&&true))))))))∧(y4=false→K false)))))∧((!(a0.text==([]:Bt)))=false→K false)))∧((decide (a0.kind=4))=false→(((decide (a0.kind=5))=true→(A30 a0.text (fun y6=>((y6=true→K (decide (a0.kind=a0.kind)&&((([]:Bt)==([]:Bt))&&(decide (a0.num=0)&&((a0.unit==([]:Bt))&&((a0.flag==false)&&true))))))∧(y6=false→K false)))))∧((decide (a0.kind=5))=false→(((decide (a0.kind=7))=true→(A30 a0.text (fun y7=>((y7=true→K (decide (a0.kind=a0.kind)&&((([]:Bt)==([]:Bt))&&(decide (a0.num=0)&&((a0.unit==([]:Bt))&&((a0.flag==false)&&true))))))∧(y7=false→K false)))))∧((decide (a0.kind=7))=false→(((decide (a0.kind=9))=true→(((decide ((a0.text.length:Int)=(1:Int)))=true→((0≤(0:Int)∧(0:Int)<(a0.text.length:Int))∧(A56 ((a0.text.getD 0 0).toNat:Int) (fun y8=>((y8=true→K (decide (a0.kind=a0.kind)&&((([]:Bt)==([]:Bt))&&(decide (a0.num=0)&&((a0.unit==([]:Bt))&&((a0.flag==false)&&true))))))∧(y8=false→K false))))))∧((decide ((a0.text.length:Int)=(1:Int)))=false→K false)))∧((decide (a0.kind=9))=false→(((decide (a0.kind=10))=true→((((!(a0.unit==([]:Bt)))==(decide (a0.kind=12)))=true→(A30 a0.unit (fun y9=>(((decide ((-1000000000000:Int)≤a0.num))=true→(((decide (a0.num≤1000000000000))=true→(((!a0.flag)=false→((1000:Int)≠0∧(((decide ((a0.num.tmod (1000:Int))=0))=true→((y9=true→(((decide (a0.kind≠11))=false→(((!a0.flag)=true→K (decide (a0.kind=a0.kind)&&((a0.text==([]:Bt))&&(decide ((0:Int)=(0:Int))&&((([]:Bt)==([]:Bt))&&((false==false)&&true))))))∧((!a0.flag)=false→K false)))∧((decide (a0.kind≠11))=true→K (decide (a0.kind=a0.kind)&&((a0.text==([]:Bt))&&(decide ((0:Int)=(0:Int))&&((([]:Bt)==([]:Bt))&&((false==false)&&true))))))))∧(y9=false→K false)))∧((decide ((a0.num.tmod (1000:Int))=0))=false→K false))))∧((!a0.flag)=true→((y9=true→(((decide (a0.kind≠11))=false→(((!a0.flag)=true→K (decide (a0.kind=a0.kind)&&((a0.text==([]:Bt))&&(decide ((0:Int)=(0:Int))&&((([]:Bt)==([]:Bt))&&((false==false)&&true))))))∧((!a0.flag)=false→K false)))∧((decide (a0.kind≠11))=true→K (decide (a0.kind=a0.kind)&&((a0.text==([]:Bt))&&(decide ((0:Int)=(0:Int))&&((([]:Bt)==([]:Bt))&&((false==false)&&true))))))))∧(y9=false→K false)))))∧((decide (a0.num≤1000000000000))=false→K false)))∧((decide ((-1000000000000:Int)≤a0.num))=false→K false)))))∧(((!(a0.unit==([]:Bt)))==(decide (a0.kind=12)))=false→(((decide ((-1000000000000:Int)≤a0.num))=true→(((decide (a0.num≤1000000000000))=true→(((!a0.flag)=false→((1000:Int)≠0∧(((decide ((a0.num.tmod (1000:Int))=0))=true→K false)∧((decide ((a0.num.tmod (1000:Int))=0))=false→K false))))∧((!a0.flag)=true→K false)))∧((decide (a0.num≤1000000000000))=false→K false)))∧((decide ((-1000000000000:Int)≤a0.num))=false→K false)))))∧((decide (a0.kind=10))=false→(((decide (a0.kind=11))=true→((((!(a0.unit==([]:Bt)))==(decide (a0.kind=12)))=true→(A30 a0.unit (fun y10=>(((decide ((-1000000000000:Int)≤a0.num))=true→(((decide (a0.num≤1000000000000))=true→(((!a0.flag)=false→((1000:Int)≠0∧(((decide ((a0.num.tmod (1000:Int))=0))=true→((y10=true→(((decide (a0.kind≠11))=false→(((!a0.flag)=true→K (decide (a0.kind=a0.kind)&&((a0.text==([]:Bt))&&(decide ((0:Int)=(0:Int))&&((([]:Bt)==([]:Bt))&&((false==false)&&true))))))∧((!a0.flag)=false→K false)))∧((decide (a0.kind≠11))=true→K (decide (a0.kind=a0.kind)&&((a0.text==([]:Bt))&&(decide ((0:Int)=(0:Int))&&((([]:Bt)==([]:Bt))&&((false==false)&&true))))))))∧(y10=false→K false)))∧((decide ((a0.num.tmod (1000:Int))=0))=false→K false))))∧((!a0.flag)=true→((y10=true→(((decide (a0.kind≠11))=false→(((!a0.flag)=true→K (decide (a0.kind=a0.kind)&&((a0.text==([]:Bt))&&(decide ((0:Int)=(0:Int))&&((([]:Bt)==([]:Bt))&&((false==false)&&true))))))∧((!a0.flag)=false→K false)))∧((decide (a0.kind≠11))=true→K (decide (a0.kind=a0.kind)&&((a0.text==([]:Bt))&&(decide ((0:Int)=(0:Int))&&((([]:Bt)==([]:Bt))&&((false==false)&&true))))))))∧(y10=false→K false)))))∧((decide (a0.num≤1000000000000))=false→K false)))∧((decide ((-1000000000000:Int)≤a0.num))=false→K false)))))∧(((!(a0.unit==([]:Bt)))==(decide (a0.kind=12)))=false→(((decide ((-1000000000000:Int)≤a0.num))=true→(((decide (a0.num≤1000000000000))=true→(((!a0.flag)=false→((1000:Int)≠0∧(((decide ((a0.num.tmod (1000:Int))=0))=true→K false)∧((decide ((a0.num.tmod (1000:Int))=0))=false→K false))))∧((!a0.flag)=true→K false)))∧((decide (a0.num≤1000000000000))=false→K false)))∧((decide ((-1000000000000:Int)≤a0.num))=false→K false)))))∧((decide (a0.kind=11))=false→(((decide (a0.kind=12))=true→((((!(a0.unit==([]:Bt)))==(decide (a0.kind=12)))=true→(A30 a0.unit (fun y11=>(((decide ((-1000000000000:Int)≤a0.num))=true→(((decide (a0.num≤1000000000000))=true→(((!a0.flag)=false→((1000:Int)≠0∧(((decide ((a0.num.tmod (1000:Int))=0))=true→((y11=true→(((decide (a0.kind≠11))=false→(((!a0.flag)=true→K (decide (a0.kind=a0.kind)&&((a0.text==([]:Bt))&&(decide ((0:Int)=(0:Int))&&((([]:Bt)==([]:Bt))&&((false==false)&&true))))))∧((!a0.flag)=false→K false)))∧((decide (a0.kind≠11))=true→K (decide (a0.kind=a0.kind)&&((a0.text==([]:Bt))&&(decide ((0:Int)=(0:Int))&&((([]:Bt)==([]:Bt))&&((false==false)&&true))))))))∧(y11=false→K false)))∧((decide ((a0.num.tmod (1000:Int))=0))=false→K false))))∧((!a0.flag)=true→((y11=true→(((decide (a0.kind≠11))=false→(((!a0.flag)=true→K (decide (a0.kind=a0.kind)&&((a0.text==([]:Bt))&&(decide ((0:Int)=(0:Int))&&((([]:Bt)==([]:Bt))&&((false==false)&&true))))))∧((!a0.flag)=false→K false)))∧((decide (a0.kind≠11))=true→K (decide (a0.kind=a0.kind)&&((a0.text==([]:Bt))&&(decide ((0:Int)=(0:Int))&&((([]:Bt)==([]:Bt))&&((false==false)&&true))))))))∧(y11=false→K false)))))∧((decide (a0.num≤1000000000000))=false→K false)))∧((decide ((-1000000000000:Int)≤a0.num))=false→K false)))))∧(((!(a0.unit==([]:Bt)))==(decide (a0.kind=12)))=false→(((decide ((-1000000000000:Int)≤a0.num))=true→(((decide (a0.num≤1000000000000))=true→(((!a0.flag)=false→((1000:Int)≠0∧(((decide ((a0.num.tmod (1000:Int))=0))=true→K false)∧((decide ((a0.num.tmod (1000:Int))=0))=false→K false))))∧((!a0.flag)=true→K false)))∧((decide (a0.num≤1000000000000))=false→K false)))∧((decide ((-1000000000000:Int)≤a0.num))=false→K false)))))∧((decide (a0.kind=12))=false→(((decide (a0.kind=6))=true→K false)∧((decide (a0.kind=6))=false→(((decide (a0.kind=8))=true→K false)∧((decide (a0.kind=8))=false→(((decide ((1:Int)≤a0.kind))=true→(((decide (a0.kind≤24))=true→K (decide (a0.kind=a0.kind)&&((a0.text==([]:Bt))&&(decide (a0.num=0)&&((a0.unit==([]:Bt))&&((a0.flag==false)&&true))))))∧((decide (a0.kind≤24))=false→K false)))∧((decide ((1:Int)≤a0.kind))=false→K false))))))))))))))))))))))))))
def jdR (A30:JaG) (A55:jaX) (A56:JA):Zj sg:=tab [(30,con [none] (jaw A30)),(55,con [none] (JaN A55)),(56,con [none] (ZS A56))]
theorem JfB (A30:JaG) (A55:jaX) (A56:JA) (h30:FP ro 30 (jaw A30)) (h55:FP ro 55 (JaN A55)) (h56:FP ro 56 (ZS A56)) (o0:Nat→Prop):CP ro o0 (jdR A30 A55 A56):=(Za (Zc h30) (Za (Zc h55) (Za (Zc h56) jd))) o0
theorem zfC (A30:JaG) (A55:jaX) (A56:JA) (a0:Tok) (k:W→Prop):fnT syo Tryz.prog GT (jdR A30 A55 A56) noL Tryz.f25.ntmps (za Tryz.f25) [none] Tryz.f25.results.toList [.a [.i .u8 a0.kind,.s a0.text,.i .i64 a0.num,.s a0.unit,.b a0.flag]] k=zai A30 A55 A56 a0 (fun r0=>k (.b r0)):=by kernel_rfl
theorem Zgb (A30:JaG) (A55:jaX) (A56:JA) (h30:FP ro 30 (jaw A30)) (h55:FP ro 55 (JaN A55)) (h56:FP ro 56 (ZS A56)):FP ro 25 (Jas (zai A30 A55 A56)):=(jx (rc:=[none]) (f:=25) (fn:=Tryz.f25) (c:=za Tryz.f25) (nt:=Tryz.f25.ntmps) (res:=Tryz.f25.results.toList) (C:=jdR A30 A55 A56) (L:=noL) (fun _ _=>rfl) Tryz.func25 (by kernel_rfl) rfl rfl (JfB A30 A55 A56 h30 h55 h56) (Ji (l:=[]) (by kernel_rfl) Zd)).weak (by
 intro us k h;unfold Jas at h;split at h
 ·skip;rename_i a0_0 a0_1 a0_2 a0_3 a0_4;rw [zfC A30 A55 A56 (Tok.mk a0_0 a0_1 a0_2 a0_3 a0_4) k];exact h
 ·exact h.elim)
abbrev zaH:=List Tok→(Int→Prop)→Prop
def Zaw (A:zaH) (us:List W) (k:W→Prop):Prop:=match us with
 | [.l Cd.tok a0]=>A a0 (fun r0=>k (.i .i64 r0))
 | _=>False
theorem ZdR {A A2:zaH} (h:FP ro 15 (Zaw A)) (hA:∀a0 K,A2 a0 K→A a0 K):FP ro 15 (Zaw A2):=h.weak (by
 intro us k h;unfold Zaw at h ⊢;split at h
 ·exact hA _ _ h
 ·exact h.elim)
def zf (A25:JS) (A33:JJ):Nat→List Tok→Int→(Unit→Prop)→(Int→Prop)→Prop
 | 0,_,_,_,_=>False
 | n+1,x0,x3,Ke,Kr=>(((decide (x3<(x0.length:Int)))=true→((0≤x3∧x3<(x0.length:Int))∧(A25 (Tok.mk ((x0.getD x3.toNat (Ze Cd.tok)).kind) ((x0.getD x3.toNat (Ze Cd.tok)).text) ((x0.getD x3.toNat (Ze Cd.tok)).num) ((x0.getD x3.toNat (Ze Cd.tok)).unit) ((x0.getD x3.toNat (Ze Cd.tok)).flag)) (fun y1=>(((!y1)=true→Kr (8:Int))∧((!y1)=false→((0≤x3∧x3<(x0.length:Int))∧(((decide (((x0.getD x3.toNat (Ze Cd.tok)).kind)=(2:Int)))=true→((0≤x3∧x3<(x0.length:Int))∧(A33 ((x0.getD x3.toNat (Ze Cd.tok)).text) ([117,114,108]:Bt) (fun y2=>((y2=true→(I64 (x3+1)∧(((decide ((x3+1)<(x0.length:Int)))=true→((0≤(x3+1)∧(x3+1)<(x0.length:Int))∧(((decide (((x0.getD ((x3+1).toNat) (Ze Cd.tok)).kind)=(13:Int)))=true→(I64 ((x3+1)+1)∧(((decide ((x0.length:Int)≤((x3+1)+1)))=false→((0≤((x3+1)+1)∧((x3+1)+1)<(x0.length:Int))∧(((decide (((x0.getD (((x3+1)+1).toNat) (Ze Cd.tok)).kind)≠(5:Int)))=true→Kr (8:Int))∧((decide (((x0.getD (((x3+1)+1).toNat) (Ze Cd.tok)).kind)≠(5:Int)))=false→((0≤x3∧x3<(x0.length:Int))∧(((decide (((x0.getD x3.toNat (Ze Cd.tok)).kind)=(9:Int)))=true→((0≤x3∧x3<(x0.length:Int))∧(((((x0.getD x3.toNat (Ze Cd.tok)).text)==([92]:Bt))=true→(I64 (x3+1)∧(((decide ((x3+1)=(x0.length:Int)))=false→(I64 (x3+1)∧((0≤(x3+1)∧(x3+1)<(x0.length:Int))∧(((decide (((x0.getD ((x3+1).toNat) (Ze Cd.tok)).kind)≠(13:Int)))=true→Kr (8:Int))∧((decide (((x0.getD ((x3+1).toNat) (Ze Cd.tok)).kind)≠(13:Int)))=false→(I64 (x3+1)∧zf A25 A33 n x0 (x3+1) Ke Kr))))))∧((decide ((x3+1)=(x0.length:Int)))=true→Kr (8:Int)))))∧((((x0.getD x3.toNat (Ze Cd.tok)).text)==([92]:Bt))=false→(I64 (x3+1)∧zf A25 A33 n x0 (x3+1) Ke Kr)))))∧((decide (((x0.getD x3.toNat (Ze Cd.tok)).kind)=(9:Int)))=false→(I64 (x3+1)∧zf A25 A33 n x0 (x3+1) Ke Kr))))))))∧((decide ((x0.length:Int)≤((x3+1)+1)))=true→Kr (8:Int)))))∧((decide (((x0.getD ((x3+1).toNat) (Ze Cd.tok)).kind)=(13:Int)))=false→(((decide ((x0.length:Int)≤(x3+1)))=false→((0≤(x3+1)∧(x3+1)<(x0.length:Int))∧(((decide (((x0.getD ((x3+1).toNat) (Ze Cd.tok)).kind)≠(5:Int)))=true→Kr (8:Int))∧((decide (((x0.getD ((x3+1).toNat) (Ze Cd.tok)).kind)≠(5:Int)))=false→((0≤x3∧x3<(x0.length:Int))∧(((decide (((x0.getD x3.toNat (Ze Cd.tok)).kind)=(9:Int)))=true→((0≤x3∧x3<(x0.length:Int))∧(((((x0.getD x3.toNat (Ze Cd.tok)).text)==([92]:Bt))=true→(I64 (x3+1)∧(((decide ((x3+1)=(x0.length:Int)))=false→(I64 (x3+1)∧((0≤(x3+1)∧(x3+1)<(x0.length:Int))∧(((decide (((x0.getD ((x3+1).toNat) (Ze Cd.tok)).kind)≠(13:Int)))=true→Kr (8:Int))∧((decide (((x0.getD ((x3+1).toNat) (Ze Cd.tok)).kind)≠(13:Int)))=false→(I64 (x3+1)∧zf A25 A33 n x0 (x3+1) Ke Kr))))))∧((decide ((x3+1)=(x0.length:Int)))=true→Kr (8:Int)))))∧((((x0.getD x3.toNat (Ze Cd.tok)).text)==([92]:Bt))=false→(I64 (x3+1)∧zf A25 A33 n x0 (x3+1) Ke Kr)))))∧((decide (((x0.getD x3.toNat (Ze Cd.tok)).kind)=(9:Int)))=false→(I64 (x3+1)∧zf A25 A33 n x0 (x3+1) Ke Kr))))))))∧((decide ((x0.length:Int)≤(x3+1)))=true→Kr (8:Int)))))))∧((decide ((x3+1)<(x0.length:Int)))=false→(((decide ((x0.length:Int)≤(x3+1)))=false→((0≤(x3+1)∧(x3+1)<(x0.length:Int))∧(((decide (((x0.getD ((x3+1).toNat) (Ze Cd.tok)).kind)≠(5:Int)))=true→Kr (8:Int))∧((decide (((x0.getD ((x3+1).toNat) (Ze Cd.tok)).kind)≠(5:Int)))=false→((0≤x3∧x3<(x0.length:Int))∧(((decide (((x0.getD x3.toNat (Ze Cd.tok)).kind)=(9:Int)))=true→((0≤x3∧x3<(x0.length:Int))∧(((((x0.getD x3.toNat (Ze Cd.tok)).text)==([92]:Bt))=true→(I64 (x3+1)∧(((decide ((x3+1)=(x0.length:Int)))=false→(I64 (x3+1)∧((0≤(x3+1)∧(x3+1)<(x0.length:Int))∧(((decide (((x0.getD ((x3+1).toNat) (Ze Cd.tok)).kind)≠(13:Int)))=true→Kr (8:Int))∧((decide (((x0.getD ((x3+1).toNat) (Ze Cd.tok)).kind)≠(13:Int)))=false→(I64 (x3+1)∧zf A25 A33 n x0 (x3+1) Ke Kr))))))∧((decide ((x3+1)=(x0.length:Int)))=true→Kr (8:Int)))))∧((((x0.getD x3.toNat (Ze Cd.tok)).text)==([92]:Bt))=false→(I64 (x3+1)∧zf A25 A33 n x0 (x3+1) Ke Kr)))))∧((decide (((x0.getD x3.toNat (Ze Cd.tok)).kind)=(9:Int)))=false→(I64 (x3+1)∧zf A25 A33 n x0 (x3+1) Ke Kr))))))))∧((decide ((x0.length:Int)≤(x3+1)))=true→Kr (8:Int)))))))∧(y2=false→((0≤x3∧x3<(x0.length:Int))∧(((decide (((x0.getD x3.toNat (Ze Cd.tok)).kind)=(9:Int)))=true→((0≤x3∧x3<(x0.length:Int))∧(((((x0.getD x3.toNat (Ze Cd.tok)).text)==([92]:Bt))=true→(I64 (x3+1)∧(((decide ((x3+1)=(x0.length:Int)))=false→(I64 (x3+1)∧((0≤(x3+1)∧(x3+1)<(x0.length:Int))∧(((decide (((x0.getD ((x3+1).toNat) (Ze Cd.tok)).kind)≠(13:Int)))=true→Kr (8:Int))∧((decide (((x0.getD ((x3+1).toNat) (Ze Cd.tok)).kind)≠(13:Int)))=false→(I64 (x3+1)∧zf A25 A33 n x0 (x3+1) Ke Kr))))))∧((decide ((x3+1)=(x0.length:Int)))=true→Kr (8:Int)))))∧((((x0.getD x3.toNat (Ze Cd.tok)).text)==([92]:Bt))=false→(I64 (x3+1)∧zf A25 A33 n x0 (x3+1) Ke Kr)))))∧((decide (((x0.getD x3.toNat (Ze Cd.tok)).kind)=(9:Int)))=false→(I64 (x3+1)∧zf A25 A33 n x0 (x3+1) Ke Kr))))))))))∧((decide (((x0.getD x3.toNat (Ze Cd.tok)).kind)=(2:Int)))=false→((0≤x3∧x3<(x0.length:Int))∧(((decide (((x0.getD x3.toNat (Ze Cd.tok)).kind)=(9:Int)))=true→((0≤x3∧x3<(x0.length:Int))∧(((((x0.getD x3.toNat (Ze Cd.tok)).text)==([92]:Bt))=true→(I64 (x3+1)∧(((decide ((x3+1)=(x0.length:Int)))=false→(I64 (x3+1)∧((0≤(x3+1)∧(x3+1)<(x0.length:Int))∧(((decide (((x0.getD ((x3+1).toNat) (Ze Cd.tok)).kind)≠(13:Int)))=true→Kr (8:Int))∧((decide (((x0.getD ((x3+1).toNat) (Ze Cd.tok)).kind)≠(13:Int)))=false→(I64 (x3+1)∧zf A25 A33 n x0 (x3+1) Ke Kr))))))∧((decide ((x3+1)=(x0.length:Int)))=true→Kr (8:Int)))))∧((((x0.getD x3.toNat (Ze Cd.tok)).text)==([92]:Bt))=false→(I64 (x3+1)∧zf A25 A33 n x0 (x3+1) Ke Kr)))))∧((decide (((x0.getD x3.toNat (Ze Cd.tok)).kind)=(9:Int)))=false→(I64 (x3+1)∧zf A25 A33 n x0 (x3+1) Ke Kr)))))))))))))∧((decide (x3<(x0.length:Int)))=false→Ke ()))
def jc4 (A25:JS) (A33:JJ) (a0:List Tok) (K:Int→Prop):Prop:=
 (((decide ((1500:Int)<(a0.length:Int)))=true→K (4:Int))∧((decide ((1500:Int)<(a0.length:Int)))=false→(∃m,zf A25 A33 m a0 (0:Int) (fun _=>K (0:Int)) (fun y1=>K y1))))
def jcd (A25:JS) (A33:JJ):Zj sg:=tab [(25,con [none] (Jas A25)),(33,con [none,none] (zac A33))]
theorem Jdb (A25:JS) (A33:JJ) (h25:FP ro 25 (Jas A25)) (h33:FP ro 33 (zac A33)) (o0:Nat→Prop):CP ro o0 (jcd A25 A33):=(Za (Zc h25) (Za (Zc h33) jd)) o0
abbrev jbK:Type:=((List (sg.Den Cd.tok))×Int×Unit)
abbrev Yb_r3_Check_4:Type:=Unit
def ls_r3_Check_4:LS syo jbK Yb_r3_Check_4:=⟨[],Jc 0 (zN syo Cd.tok) (Jc 3 (Je syo .i64) (JC syo)),zD syo,0,[]⟩
def le_r3_Check_4:LS syo Unit Unit:=⟨[],JC syo,zD syo,0,[]⟩
def lr_r3_Check_4:LS syo (Int×Unit) Unit:=⟨[],Jc 2 (Je syo .i64) (JC syo),zD syo,0,[]⟩
def ja3 (A25:JS) (A33:JJ) (n:Nat) (x:jbK×Yb_r3_Check_4) (K:Ex→Z sg→Prop):Prop:=zf A25 A33 n x.1.1 x.1.2.1 (fun _=>K (.exit 0) (le_r3_Check_4.put ((),()))) (fun y0=>K .ret (lr_r3_Check_4.put ((y0,()),())))
def ze6 (A25:JS) (A33:JJ) (z:Z sg) (K:Ex→Z sg→Prop):Prop:=ls_r3_Check_4.get z (fun x=>∃n,ja3 A25 A33 n x K)
def za6 (A25:JS) (A33:JJ):ZW sg:=jcm [(4,ze6 A25 A33)]
theorem Jez (A25:JS) (A33:JJ) (n:Nat) (x:jbK×Yb_r3_Check_4) (K:Ex→Z sg→Prop):zt (ls_r3_Check_4.put x) (fun z=>sC syo Tryz.prog GT (jcd A25 A33) (za6 A25 A33) Tryz.f15.ntmps (zb (za Tryz.f15) 0) z (rnd ls_r3_Check_4 (czT 0 le_r3_Check_4 lr_r3_Check_4) (fun x=>ja3 A25 A33 n x K) K))=ja3 A25 A33 (n+1) x K:=by kernel_rfl
theorem zeA (A25:JS) (A33:JJ) (z:Z sg) (K:Ex→Z sg→Prop):(za6 A25 A33) (zb (za Tryz.f15) 0) z K=ls_r3_Check_4.get z (fun x=>∃n,ja3 A25 A33 n x K):=by kernel_rfl
theorem jeA (A25:JS) (A33:JJ) (h25:FP ro 25 (Jas A25)) (h33:FP ro 33 (zac A33)):∀(o0:Nat→Prop) (B:Bs sg),B.E.length≤0→∀z K,(za6 A25 A33) (zb (za Tryz.f15) 0) z K→Sx.Sem syo Tryz.prog GT (ovD ro) o0 ro Tryz.f15.ntmps B (.loop (zb (za Tryz.f15) 0)) z K:=
 ZD (Jdb A25 A33 h25 h33) (Ji (l:=[]) (by kernel_rfl) Zd) ls_r3_Check_4 (by decide) (czT 0 le_r3_Check_4 lr_r3_Check_4) (fun _ _ hB=>ZV 0 le_r3_Check_4 lr_r3_Check_4 (Nat.le_trans hB (by decide)) (Nat.le_trans hB (by decide))) (fun _ _ h=>h) (Jez A25 A33) (zeA A25 A33)
theorem jfC (A25:JS) (A33:JJ) (h25:FP ro 25 (Jas A25)) (h33:FP ro 33 (zac A33)):jbV syo Tryz.prog GT (ovD ro) ro (za6 A25 A33) 0 Tryz.f15.ntmps (za Tryz.f15):=Ji (l:=[(zb (za Tryz.f15) 0)]) (by kernel_rfl) (jD (jeA A25 A33 h25 h33) Zd)
theorem je6 (A25:JS) (A33:JJ) (a0:List Tok) (k:W→Prop):fnT syo Tryz.prog GT (jcd A25 A33) (za6 A25 A33) Tryz.f15.ntmps (za Tryz.f15) [none] Tryz.f15.results.toList [.l Cd.tok a0] k=jc4 A25 A33 a0 (fun r0=>k (.i .i64 r0)):=by kernel_rfl
theorem ZfC (A25:JS) (A33:JJ) (h25:FP ro 25 (Jas A25)) (h33:FP ro 33 (zac A33)):FP ro 15 (Zaw (jc4 A25 A33)):=(jx (rc:=[none]) (f:=15) (fn:=Tryz.f15) (c:=za Tryz.f15) (nt:=Tryz.f15.ntmps) (res:=Tryz.f15.results.toList) (C:=jcd A25 A33) (L:=(za6 A25 A33)) (fun _ _=>rfl) Tryz.func15 (by kernel_rfl) rfl rfl (Jdb A25 A33 h25 h33) (jfC A25 A33 h25 h33)).weak (by
 intro us k h;unfold Zaw at h;split at h
 ·skip;rename_i a0;rw [je6 A25 A33 a0 k];exact h
 ·exact h.elim)
abbrev zK:=List Tok→(Bool→Prop)→Prop
def jac (A:zK) (us:List W) (k:W→Prop):Prop:=match us with
 | [.l Cd.tok a0]=>A a0 (fun r0=>k (.b r0))
 | _=>False
theorem JdR {A A2:zK} (h:FP ro 7 (jac A)) (hA:∀a0 K,A2 a0 K→A a0 K):FP ro 7 (jac A2):=h.weak (by
 intro us k h;unfold jac at h ⊢;split at h
 ·exact hA _ _ h
 ·exact h.elim)
def Z2:Nat→List Tok→Int→Int→(Unit→Prop)→(Bool→Prop)→Prop
 | 0,_,_,_,_,_=>False
 | n+1,x0,x3,x4,Ke,Kr=>(((decide (x4<(x0.length:Int)))=true→((0≤x4∧x4<(x0.length:Int))∧((0≤x4∧x4<(x0.length:Int))∧(I64 ((((x0.getD x4.toNat (Ze Cd.tok)).text).length:Int)+(((x0.getD x4.toNat (Ze Cd.tok)).unit).length:Int))∧(I64 (x3+((((x0.getD x4.toNat (Ze Cd.tok)).text).length:Int)+(((x0.getD x4.toNat (Ze Cd.tok)).unit).length:Int)))∧(((decide ((1000:Int)<(x3+((((x0.getD x4.toNat (Ze Cd.tok)).text).length:Int)+(((x0.getD x4.toNat (Ze Cd.tok)).unit).length:Int)))))=true→Kr true)∧((decide ((1000:Int)<(x3+((((x0.getD x4.toNat (Ze Cd.tok)).text).length:Int)+(((x0.getD x4.toNat (Ze Cd.tok)).unit).length:Int)))))=false→(I64 (x4+1)∧Z2 n x0 (x3+((((x0.getD x4.toNat (Ze Cd.tok)).text).length:Int)+(((x0.getD x4.toNat (Ze Cd.tok)).unit).length:Int))) (x4+1) Ke Kr))))))))∧((decide (x4<(x0.length:Int)))=false→Ke ()))
def Zc4 (a0:List Tok) (K:Bool→Prop):Prop:=
 (((decide ((100:Int)<(a0.length:Int)))=true→(((decide ((a0.length:Int)≤(1500:Int)))=false→(((decide ((1510:Int)<(a0.length:Int)))=true→K true)∧((decide ((1510:Int)<(a0.length:Int)))=false→(∃m,Z2 m a0 (0:Int) (0:Int) (fun _=>K false) (fun y1=>K y1)))))∧((decide ((a0.length:Int)≤(1500:Int)))=true→K true)))∧((decide ((100:Int)<(a0.length:Int)))=false→(((decide ((1510:Int)<(a0.length:Int)))=true→K true)∧((decide ((1510:Int)<(a0.length:Int)))=false→(∃m,Z2 m a0 (0:Int) (0:Int) (fun _=>K false) (fun y2=>K y2))))))
def Zcd:Zj sg:=tab []
theorem zdc (o0:Nat→Prop):CP ro o0 (Zcd):=jd o0
abbrev ZbK:Type:=((List (sg.Den Cd.tok))×Int×Int×Unit)
abbrev Yb_r3_Great_5:Type:=Unit
def ls_r3_Great_5:LS syo ZbK Yb_r3_Great_5:=⟨[],Jc 0 (zN syo Cd.tok) (Jc 3 (Je syo .i64) (Jc 4 (Je syo .i64) (JC syo))),zD syo,0,[]⟩
def le_r3_Great_5:LS syo Unit Unit:=⟨[],JC syo,zD syo,0,[]⟩
def lr_r3_Great_5:LS syo (Bool×Unit) Unit:=⟨[],Jc 2 (Zn syo) (JC syo),zD syo,0,[]⟩
def Za3 (n:Nat) (x:ZbK×Yb_r3_Great_5) (K:Ex→Z sg→Prop):Prop:=Z2 n x.1.1 x.1.2.1 x.1.2.2.1 (fun _=>K (.exit 0) (le_r3_Great_5.put ((),()))) (fun y0=>K .ret (lr_r3_Great_5.put ((y0,()),())))
def Ze6 (z:Z sg) (K:Ex→Z sg→Prop):Prop:=ls_r3_Great_5.get z (fun x=>∃n,Za3 n x K)
def ja6:ZW sg:=jcm [(5,Ze6)]
theorem ZeA (n:Nat) (x:ZbK×Yb_r3_Great_5) (K:Ex→Z sg→Prop):zt (ls_r3_Great_5.put x) (fun z=>sC syo Tryz.prog GT (Zcd) (ja6) Tryz.f7.ntmps (zb (za Tryz.f7) 0) z (rnd ls_r3_Great_5 (czT 0 le_r3_Great_5 lr_r3_Great_5) (fun x=>Za3 n x K) K))=Za3 (n+1) x K:=by kernel_rfl
theorem JeA (z:Z sg) (K:Ex→Z sg→Prop):(ja6) (zb (za Tryz.f7) 0) z K=ls_r3_Great_5.get z (fun x=>∃n,Za3 n x K):=by kernel_rfl
theorem zeB:∀(o0:Nat→Prop) (B:Bs sg),B.E.length≤0→∀z K,(ja6) (zb (za Tryz.f7) 0) z K→Sx.Sem syo Tryz.prog GT (ovD ro) o0 ro Tryz.f7.ntmps B (.loop (zb (za Tryz.f7) 0)) z K:=
 ZD (zdc) (Ji (l:=[]) (by kernel_rfl) Zd) ls_r3_Great_5 (by decide) (czT 0 le_r3_Great_5 lr_r3_Great_5) (fun _ _ hB=>ZV 0 le_r3_Great_5 lr_r3_Great_5 (Nat.le_trans hB (by decide)) (Nat.le_trans hB (by decide))) (fun _ _ h=>h) (ZeA) (JeA)
theorem JfC:jbV syo Tryz.prog GT (ovD ro) ro (ja6) 0 Tryz.f7.ntmps (za Tryz.f7):=Ji (l:=[(zb (za Tryz.f7) 0)]) (by kernel_rfl) (jD (zeB) Zd)
theorem Je6 (a0:List Tok) (k:W→Prop):fnT syo Tryz.prog GT (Zcd) (ja6) Tryz.f7.ntmps (za Tryz.f7) [none] Tryz.f7.results.toList [.l Cd.tok a0] k=Zc4 a0 (fun r0=>k (.b r0)):=by kernel_rfl
theorem zfD:FP ro 7 (jac (Zc4)):=(jx (rc:=[none]) (f:=7) (fn:=Tryz.f7) (c:=za Tryz.f7) (nt:=Tryz.f7.ntmps) (res:=Tryz.f7.results.toList) (C:=Zcd) (L:=(ja6)) (fun _ _=>rfl) Tryz.func7 (by kernel_rfl) rfl rfl (zdc) (JfC)).weak (by
 intro us k h;unfold jac at h;split at h
 ·skip;rename_i a0;rw [Je6 a0 k];exact h
 ·exact h.elim)
end Go.Proofs.YtmnegokadegioaaGreatDoor
