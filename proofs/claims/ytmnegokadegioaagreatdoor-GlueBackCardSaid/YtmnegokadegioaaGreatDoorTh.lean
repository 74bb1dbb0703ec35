/-
 Functions of the tokenizer, followed: tokens of all kinds, all tokens. Nothing is claimed here.
-/
import Derived.Test.YtmnegokadegioaaGreatDoorTg
namespace Go.Proofs.YtmnegokadegioaaGreatDoor
open Go.Vm Go.Sx Go.RowKit
variable {ro:Nat}
abbrev JaQ:=Bt→Bt→(Int→Prop)→Prop
def Zbr (A:JaQ) (us:List W) (k:W→Prop):Prop:=match us with
 | [.s a0,.s a1]=>A a0 a1 (fun r0=>k (.i .i64 r0))
 | _=>False
abbrev zI:=Bt→Bt→(Int→Prop)→Prop
def j7 (A:zI) (us:List W) (k:W→Prop):Prop:=match us with
 | [.s a0,.s a1]=>A a0 a1 (fun r0=>k (.i .i64 r0))
 | _=>False
theorem jdG {A A2:zI} (h:FO ro 93 (j7 A)) (hA:∀a0 a1 K,A2 a0 a1 K→A a0 a1 K):FO ro 93 (j7 A2):=h.weak (by
 intro us k h;unfold j7 at h ⊢;split at h
 ·exact hA _ _ _ h
 ·exact h.elim)
def ZcU (A119:JaQ) (a0:Bt) (a1:Bt) (K:Int→Prop):Prop:=
 (A119 a0 a1 (fun y1=>K y1))
def JcU (A119:JaQ):jj sg:=tab [(119,con [none,none] (Zbr A119))]
theorem zeZ (A119:JaQ) (h119:FO ro 119 (Zbr A119)) (o0:Nat→Prop):zB sy Tryz.prog GT (ovD ro) o0 ro (JcU A119):=(Za (Zc h119) Zd) o0
theorem jeZ (A119:JaQ) (a0:Bt) (a1:Bt) (k:W→Prop):fnT sy Tryz.prog GT (JcU A119) noL Tryz.f93.ntmps (za Tryz.f93) [none] Tryz.f93.results.toList [.s a0,.s a1] k=ZcU A119 a0 a1 (fun r0=>k (.i .i64 r0)):=by kernel_rfl
theorem jfq (A119:JaQ) (h119:FO ro 119 (Zbr A119)):FO ro 93 (j7 (ZcU A119)):=(zx (rc:=[none]) (f:=93) (fn:=Tryz.f93) (c:=za Tryz.f93) (nt:=Tryz.f93.ntmps) (res:=Tryz.f93.results.toList) (C:=JcU A119) (L:=noL) (fun _ _=>rfl) Tryz.func93 (by kernel_rfl) rfl rfl (zeZ A119 h119) (Ji (l:=[]) (by kernel_rfl) je)).weak (by
 intro us k h;unfold j7 at h;split at h
 ·rw [jeZ];exact h
 ·exact h.elim)
abbrev zaD:=Int→(Bool→Prop)→Prop
def Zar (A:zaD) (us:List W) (k:W→Prop):Prop:=match us with
 | [.i .u8 a0]=>A a0 (fun r0=>k (.b r0))
 | _=>False
theorem ZdG {A A2:zaD} (h:FO ro 102 (Zar A)) (hA:∀a0 K,A2 a0 K→A a0 K):FO ro 102 (Zar A2):=h.weak (by
 intro us k h;unfold Zar at h ⊢;split at h
 ·exact hA _ _ h
 ·exact h.elim)
def zcV (a0:Int) (K:Bool→Prop):Prop:=
 (I64 a0∧(((decide (a0<126))=true→((0≤a0∧a0<126)∧(0+a0.toNat*1<marksL.length∧K (decide ((marksL.getD (0+a0.toNat*1) 0)≠(0:Int))))))∧((decide (a0<126))=false→K false)))
def jcV:jj sg:=tab []
theorem ZeZ (o0:Nat→Prop):zB sy Tryz.prog GT (ovD ro) o0 ro (jcV):=Zd o0
theorem JeZ (a0:Int) (k:W→Prop):fnT sy Tryz.prog GT (jcV) noL Tryz.f102.ntmps (za Tryz.f102) [none] Tryz.f102.results.toList [.i .u8 a0] k=zcV a0 (fun r0=>k (.b r0)):=by kernel_rfl
theorem Zfq:FO ro 102 (Zar (zcV)):=(zx (rc:=[none]) (f:=102) (fn:=Tryz.f102) (c:=za Tryz.f102) (nt:=Tryz.f102.ntmps) (res:=Tryz.f102.results.toList) (C:=jcV) (L:=noL) (fun _ _=>rfl) Tryz.func102 (by kernel_rfl) rfl rfl (ZeZ) (Ji (l:=[]) (by kernel_rfl) je)).weak (by
 intro us k h;unfold Zar at h;split at h
 ·rw [JeZ];exact h
 ·exact h.elim)
abbrev JS:=Bt→Int→(Tok→Int→Prop)→Prop
def zM (A:JS) (us:List W) (k:W→Prop):Prop:=match us with
 | [.s a0,.i .i64 a1]=>A a0 a1 (fun r0 r1=>k (.t [.a [.i .u8 r0.kind,.s r0.text,.i .i64 r0.num,.s r0.unit,.b r0.flag],.i .i64 r1]))
 | _=>False
theorem zcq {A A2:JS} (h:FO ro 100 (zM A)) (hA:∀a0 a1 K,A2 a0 a1 K→A a0 a1 K):FO ro 100 (zM A2):=h.weak (by
 intro us k h;unfold zM at h ⊢;split at h
 ·exact hA _ _ _ h
 ·exact h.elim)
def Zbi (A125:jbU) (A97:Jt) (A98:jr) (A120:Ja) (a0:Bt) (a1:Int) (K:Tok→Int→Prop):Prop:=
 (A125 a0 a1 (fun y1 y2 y3=>(A97 a0 y3 (fun y4=>((y4=true→(A98 a0 y3 (fun y5 y6=>K (Tok.mk (12:Int) ([]:Bt) y1 y5 y2) y6)))∧(y4=false→(A120 a0 y3 (fun y7=>(((decide (y7=37))=true→(I64 (y3+1)∧K (Tok.mk (11:Int) ([]:Bt) y1 ([]:Bt) false) (y3+1)))∧((decide (y7=37))=false→K (Tok.mk (10:Int) ([]:Bt) y1 ([]:Bt) y2) y3))))))))))
def Jbi (A125:jbU) (A97:Jt) (A98:jr) (A120:Ja):jj sg:=tab [(125,con [none,none] (Jbz A125)),(97,con [none,none] (Zy A97)),(98,con [none,none] (Zx A98)),(120,con [none,none] (jd A120))]
theorem zdf (A125:jbU) (A97:Jt) (A98:jr) (A120:Ja) (h125:FO ro 125 (Jbz A125)) (h97:FO ro 97 (Zy A97)) (h98:FO ro 98 (Zx A98)) (h120:FO ro 120 (jd A120)) (o0:Nat→Prop):zB sy Tryz.prog GT (ovD ro) o0 ro (Jbi A125 A97 A98 A120):=(Za (Zc h125) (Za (Zc h97) (Za (Zc h98) (Za (Zc h120) Zd)))) o0
theorem jdf (A125:jbU) (A97:Jt) (A98:jr) (A120:Ja) (a0:Bt) (a1:Int) (k:W→Prop):fnT sy Tryz.prog GT (Jbi A125 A97 A98 A120) noL Tryz.f100.ntmps (za Tryz.f100) [none,none] Tryz.f100.results.toList [.s a0,.i .i64 a1] k=Zbi A125 A97 A98 A120 a0 a1 (fun r0 r1=>k (.t [.a [.i .u8 r0.kind,.s r0.text,.i .i64 r0.num,.s r0.unit,.b r0.flag],.i .i64 r1])):=by kernel_rfl
theorem JdG (A125:jbU) (A97:Jt) (A98:jr) (A120:Ja) (h125:FO ro 125 (Jbz A125)) (h97:FO ro 97 (Zy A97)) (h98:FO ro 98 (Zx A98)) (h120:FO ro 120 (jd A120)):FO ro 100 (zM (Zbi A125 A97 A98 A120)):=(zx (rc:=[none,none]) (f:=100) (fn:=Tryz.f100) (c:=za Tryz.f100) (nt:=Tryz.f100.ntmps) (res:=Tryz.f100.results.toList) (C:=Jbi A125 A97 A98 A120) (L:=noL) (fun _ _=>rfl) Tryz.func100 (by kernel_rfl) rfl rfl (zdf A125 A97 A98 A120 h125 h97 h98 h120) (Ji (l:=[]) (by kernel_rfl) je)).weak (by
 intro us k h;unfold zM at h;split at h
 ·rw [jdf];exact h
 ·exact h.elim)
abbrev Jh:=Bt→Int→(Int→Prop)→Prop
def zp (A:Jh) (us:List W) (k:W→Prop):Prop:=match us with
 | [.s a0,.i .i64 a1]=>A a0 a1 (fun r0=>k (.i .i64 r0))
 | _=>False
theorem ZbM {A A2:Jh} (h:FO ro 68 (zp A)) (hA:∀a0 a1 K,A2 a0 a1 K→A a0 a1 K):FO ro 68 (zp A2):=h.weak (by
 intro us k h;unfold zp at h ⊢;split at h
 ·exact hA _ _ _ h
 ·exact h.elim)
def Z4 (A92:ZA) (A93:zI):Nat→Bt→Int→(Int→Prop)→(Int→Prop)→Prop
 | 0,_,_,_,_=>False
 | n+1,x0,x1,Ke,Kr=>((0≤x1∧x1≤(x0.length:Int))∧(A92 (x0.drop x1.toNat) ([47,42]:Bt) (fun y1=>((y1=true→(I64 (x1+2)∧((0≤(x1+2)∧(x1+2)≤(x0.length:Int))∧(A93 (x0.drop (x1+2).toNat) ([42,47]:Bt) (fun y2=>(((decide (y2<0))=true→Kr (x0.length:Int))∧((decide (y2<0))=false→(I64 (y2+2)∧(I64 ((x1+2)+(y2+2))∧Z4 A92 A93 n x0 ((x1+2)+(y2+2)) Ke Kr)))))))))∧(y1=false→Ke x1)))))
def zaR (A92:ZA) (A93:zI) (a0:Bt) (a1:Int) (K:Int→Prop):Prop:=
 (∃m,Z4 A92 A93 m a0 a1 (fun y1=>K y1) (fun y2=>K y2))
def Jar (A92:ZA) (A93:zI):jj sg:=tab [(92,con [none,none] (zX A92)),(93,con [none,none] (j7 A93))]
theorem Za6 (A92:ZA) (A93:zI) (h92:FO ro 92 (zX A92)) (h93:FO ro 93 (j7 A93)) (o0:Nat→Prop):zB sy Tryz.prog GT (ovD ro) o0 ro (Jar A92 A93):=(Za (Zc h92) (Za (Zc h93) Zd)) o0
abbrev jav:Type:=((Bt)×Int×Unit)
abbrev Yb_behindCommentsA_1:Type:=Unit
def ls_behindCommentsA_1:LS sy jav Yb_behindCommentsA_1:=⟨[],Jc 0 (jl sy) (Jc 1 (Je sy .i64) (JD sy)),zE sy,0,[]⟩
def le_behindCommentsA_1:LS sy (Int×Unit) Unit:=⟨[],Jc 1 (Je sy .i64) (JD sy),zE sy,0,[]⟩
def lr_behindCommentsA_1:LS sy (Int×Unit) Unit:=⟨[],Jc 4 (Je sy .i64) (JD sy),zE sy,0,[]⟩
def J4 (A92:ZA) (A93:zI) (n:Nat) (x:jav×Yb_behindCommentsA_1) (K:Ex→Z sg→Prop):Prop:=Z4 A92 A93 n x.1.1 x.1.2.1 (fun y0=>K (.exit 0) (le_behindCommentsA_1.put ((y0,()),()))) (fun y0=>K .ret (lr_behindCommentsA_1.put ((y0,()),())))
def jcq (A92:ZA) (A93:zI) (z:Z sg) (K:Ex→Z sg→Prop):Prop:=ls_behindCommentsA_1.get z (fun x=>∃n,J4 A92 A93 n x K)
def ZT (A92:ZA) (A93:zI):jV sg:=Zcn [(1,jcq A92 A93)]
theorem Jce (A92:ZA) (A93:zI) (n:Nat) (x:jav×Yb_behindCommentsA_1) (K:Ex→Z sg→Prop):Js (ls_behindCommentsA_1.put x) (fun z=>sC sy Tryz.prog GT (Jar A92 A93) (ZT A92 A93) Tryz.f68.ntmps (zb (za Tryz.f68) 0) z (rnd ls_behindCommentsA_1 (czT 0 le_behindCommentsA_1 lr_behindCommentsA_1) (fun x=>J4 A92 A93 n x K) K))=J4 A92 A93 (n+1) x K:=by kernel_rfl
theorem zcf (A92:ZA) (A93:zI) (z:Z sg) (K:Ex→Z sg→Prop):(ZT A92 A93) (zb (za Tryz.f68) 0) z K=ls_behindCommentsA_1.get z (fun x=>∃n,J4 A92 A93 n x K):=by kernel_rfl
theorem jcf (A92:ZA) (A93:zI) (h92:FO ro 92 (zX A92)) (h93:FO ro 93 (j7 A93)):∀(o0:Nat→Prop) (B:Bs sg),B.E.length≤0→∀z K,(ZT A92 A93) (zb (za Tryz.f68) 0) z K→Sx.Sem sy Tryz.prog GT (ovD ro) o0 ro Tryz.f68.ntmps B (.loop (zb (za Tryz.f68) 0)) z K:=
 ZE (Za6 A92 A93 h92 h93) (Ji (l:=[]) (by kernel_rfl) je) ls_behindCommentsA_1 (by decide) (czT 0 le_behindCommentsA_1 lr_behindCommentsA_1) (fun _ _ hB=>JU 0 le_behindCommentsA_1 lr_behindCommentsA_1 (Nat.le_trans hB (by decide)) (Nat.le_trans hB (by decide))) (fun _ _ h=>h) (Jce A92 A93) (zcf A92 A93)
theorem jcD (A92:ZA) (A93:zI) (h92:FO ro 92 (zX A92)) (h93:FO ro 93 (j7 A93)):Jb7 sy Tryz.prog GT (ovD ro) ro (ZT A92 A93) 0 Tryz.f68.ntmps (za Tryz.f68):=Ji (l:=[(zb (za Tryz.f68) 0)]) (by kernel_rfl) (jE (jcf A92 A93 h92 h93) je)
theorem Zcq (A92:ZA) (A93:zI) (a0:Bt) (a1:Int) (k:W→Prop):fnT sy Tryz.prog GT (Jar A92 A93) (ZT A92 A93) Tryz.f68.ntmps (za Tryz.f68) [none] Tryz.f68.results.toList [.s a0,.i .i64 a1] k=zaR A92 A93 a0 a1 (fun r0=>k (.i .i64 r0)):=by kernel_rfl
theorem ZcD (A92:ZA) (A93:zI) (h92:FO ro 92 (zX A92)) (h93:FO ro 93 (j7 A93)):FO ro 68 (zp (zaR A92 A93)):=(zx (rc:=[none]) (f:=68) (fn:=Tryz.f68) (c:=za Tryz.f68) (nt:=Tryz.f68.ntmps) (res:=Tryz.f68.results.toList) (C:=Jar A92 A93) (L:=(ZT A92 A93)) (fun _ _=>rfl) Tryz.func68 (by kernel_rfl) rfl rfl (Za6 A92 A93 h92 h93) (jcD A92 A93 h92 h93)).weak (by
 intro us k h;unfold zp at h;split at h
 ·rw [Zcq];exact h
 ·exact h.elim)
abbrev Zr:=Bt→Int→(Tok→Int→Prop)→Prop
def ZJ (A:Zr) (us:List W) (k:W→Prop):Prop:=match us with
 | [.s a0,.i .i64 a1]=>A a0 a1 (fun r0 r1=>k (.t [.a [.i .u8 r0.kind,.s r0.text,.i .i64 r0.num,.s r0.unit,.b r0.flag],.i .i64 r1]))
 | _=>False
theorem ZcV {A A2:Zr} (h:FO ro 69 (ZJ A)) (hA:∀a0 a1 K,A2 a0 a1 K→A a0 a1 K):FO ro 69 (ZJ A2):=h.weak (by
 intro us k h;unfold ZJ at h ⊢;split at h
 ·exact hA _ _ _ h
 ·exact h.elim)
def zbX (A78:Zb) (A94:zN) (A79:Zv) (A95:JbW) (A96:ZZ) (A97:Jt) (A98:jr) (A99:JbS) (A100:JS) (A92:ZA) (A101:ZX) (A102:zaD) (a0:Bt) (a1:Int) (K:Tok→Int→Prop):Prop:=
 ((0≤a1∧a1<(a0.length:Int))∧(A78 ((a0.getD a1.toNat 0).toNat:Int) (fun y1=>((y1=true→(A94 a0 a1 (fun y2=>K (Tok.mk (13:Int) ([]:Bt) (0:Int) ([]:Bt) false) y2)))∧(y1=false→((0≤a1∧a1<(a0.length:Int))∧(A79 ((a0.getD a1.toNat 0).toNat:Int) (fun y3=>((y3=true→(A95 a0 a1 (fun y4 y5=>K (Tok.mk y4.kind y4.text y4.num y4.unit y4.flag) y5)))∧(y3=false→((0≤a1∧a1<(a0.length:Int))∧(((decide (((a0.getD a1.toNat 0).toNat:Int)=(35:Int)))=true→(I64 (a1+1)∧(A96 a0 (a1+1) (fun y6=>((y6=true→(I64 (a1+1)∧(A97 a0 (a1+1) (fun y7=>(I64 (a1+1)∧(A98 a0 (a1+1) (fun y8 y9=>K (Tok.mk (4:Int) y8 (0:Int) ([]:Bt) y7) y9)))))))∧(y6=false→(A99 a0 a1 (fun y10=>((y10=true→(A100 a0 a1 (fun y11 y12=>K (Tok.mk y11.kind y11.text y11.num y11.unit y11.flag) y12)))∧(y10=false→((0≤a1∧a1≤(a0.length:Int))∧(A92 (a0.drop a1.toNat) ([45,45,62]:Bt) (fun y13=>((y13=true→(I64 (a1+3)∧K (Tok.mk (15:Int) ([]:Bt) (0:Int) ([]:Bt) false) (a1+3)))∧(y13=false→((0≤a1∧a1≤(a0.length:Int))∧(A92 (a0.drop a1.toNat) ([60,33,45,45]:Bt) (fun y14=>((y14=true→(I64 (a1+4)∧K (Tok.mk (14:Int) ([]:Bt) (0:Int) ([]:Bt) false) (a1+4)))∧(y14=false→((0≤a1∧a1<(a0.length:Int))∧(((decide (((a0.getD a1.toNat 0).toNat:Int)=(64:Int)))=true→(I64 (a1+1)∧(A97 a0 (a1+1) (fun y15=>((y15=true→(I64 (a1+1)∧(A98 a0 (a1+1) (fun y16 y17=>K (Tok.mk (3:Int) y16 (0:Int) ([]:Bt) false) y17))))∧(y15=false→(A97 a0 a1 (fun y18=>((y18=true→(A101 a0 a1 (fun y19 y20=>K (Tok.mk y19.kind y19.text y19.num y19.unit y19.flag) y20)))∧(y18=false→((0≤a1∧a1<(a0.length:Int))∧(A102 ((a0.getD a1.toNat 0).toNat:Int) (fun y21=>((y21=true→((0≤a1∧a1<(a0.length:Int))∧((0≤((a0.getD a1.toNat 0).toNat:Int)∧((a0.getD a1.toNat 0).toNat:Int)<(126:Int))∧(0+((a0.getD a1.toNat 0).toNat:Int).toNat*1<marksL.length∧(I64 (a1+1)∧K (Tok.mk (marksL.getD (0+((a0.getD a1.toNat 0).toNat:Int).toNat*1) 0) ([]:Bt) (0:Int) ([]:Bt) false) (a1+1))))))∧(y21=false→(I64 (a1+1)∧((0≤a1∧a1≤(a1+1)∧(a1+1)≤(a0.length:Int))∧(I64 (a1+1)∧K (Tok.mk (9:Int) ((a0.drop a1.toNat).take ((a1+1).toNat-a1.toNat)) (0:Int) ([]:Bt) false) (a1+1)))))))))))))))))))∧((decide (((a0.getD a1.toNat 0).toNat:Int)=(64:Int)))=false→(A97 a0 a1 (fun y22=>((y22=true→(A101 a0 a1 (fun y23 y24=>K (Tok.mk y23.kind y23.text y23.num y23.unit y23.flag) y24)))∧(y22=false→((0≤a1∧a1<(a0.length:Int))∧(A102 ((a0.getD a1.toNat 0).toNat:Int) (fun y25=>((y25=true→((0≤a1∧a1<(a0.length:Int))∧((0≤((a0.getD a1.toNat 0).toNat:Int)∧((a0.getD a1.toNat 0).toNat:Int)<(126:Int))∧(0+((a0.getD a1.toNat 0).toNat:Int).toNat*1<marksL.length∧(I64 (a1+1)∧K (Tok.mk (marksL.getD (0+((a0.getD a1.toNat 0).toNat:Int).toNat*1) 0) ([]:Bt) (0:Int) ([]:Bt) false) (a1+1))))))∧(y25=false→(I64 (a1+1)∧((0≤a1∧a1≤(a1+1)∧(a1+1)≤(a0.length:Int))∧(I64 (a1+1)∧K (Tok.mk (9:Int) ((a0.drop a1.toNat).take ((a1+1).toNat-a1.toNat)) (0:Int) ([]:Bt) false) (a1+1))))))))))))))))))))))))))))))))))))∧((decide (((a0.getD a1.toNat 0).toNat:Int)=(35:Int)))=false→(A99 a0 a1 (fun y26=>((y26=true→(A100 a0 a1 (fun y27 y28=>K (Tok.mk y27.kind y27.text y27.num y27.unit y27.flag) y28)))∧(y26=false→((0≤a1∧a1≤(a0.length:Int))∧(A92 (a0.drop a1.toNat) ([45,45,62]:Bt) (fun y29=>((y29=true→(I64 (a1+3)∧K (Tok.mk (15:Int) ([]:Bt) (0:Int) ([]:Bt) false) (a1+3)))∧(y29=false→((0≤a1∧a1≤(a0.length:Int))∧(A92 (a0.drop a1.toNat) ([60,33,45,45]:Bt) (fun y30=>((y30=true→(I64 (a1+4)∧K (Tok.mk (14:Int) ([]:Bt) (0:Int) ([]:Bt) false) (a1+4)))∧(y30=false→((0≤a1∧a1<(a0.length:Int))∧(((decide (((a0.getD a1.toNat 0).toNat:Int)=(64:Int)))=true→(I64 (a1+1)∧(A97 a0 (a1+1) (fun y31=>((y31=true→(I64 (a1+1)∧(A98 a0 (a1+1) (fun y32 y33=>K (Tok.mk (3:Int) y32 (0:Int) ([]:Bt) false) y33))))∧(y31=false→(A97 a0 a1 (fun y34=>((y34=true→(A101 a0 a1 (fun y35 y36=>K (Tok.mk y35.kind y35.text y35.num y35.unit y35.flag) y36)))∧(y34=false→((0≤a1∧a1<(a0.length:Int))∧(A102 ((a0.getD a1.toNat 0).toNat:Int) (fun y37=>((y37=true→((0≤a1∧a1<(a0.length:Int))∧((0≤((a0.getD a1.toNat 0).toNat:Int)∧((a0.getD a1.toNat 0).toNat:Int)<(126:Int))∧(0+((a0.getD a1.toNat 0).toNat:Int).toNat*1<marksL.length∧(I64 (a1+1)∧K (Tok.mk (marksL.getD (0+((a0.getD a1.toNat 0).toNat:Int).toNat*1) 0) ([]:Bt) (0:Int) ([]:Bt) false) (a1+1))))))∧(y37=false→(I64 (a1+1)∧((0≤a1∧a1≤(a1+1)∧(a1+1)≤(a0.length:Int))∧(I64 (a1+1)∧K (Tok.mk (9:Int) ((a0.drop a1.toNat).take ((a1+1).toNat-a1.toNat)) (0:Int) ([]:Bt) false) (a1+1)))))))))))))))))))∧((decide (((a0.getD a1.toNat 0).toNat:Int)=(64:Int)))=false→(A97 a0 a1 (fun y38=>((y38=true→(A101 a0 a1 (fun y39 y40=>K (Tok.mk y39.kind y39.text y39.num y39.unit y39.flag) y40)))∧(y38=false→((0≤a1∧a1<(a0.length:Int))∧(A102 ((a0.getD a1.toNat 0).toNat:Int) (fun y41=>((y41=true→((0≤a1∧a1<(a0.length:Int))∧((0≤((a0.getD a1.toNat 0).toNat:Int)∧((a0.getD a1.toNat 0).toNat:Int)<(126:Int))∧(0+((a0.getD a1.toNat 0).toNat:Int).toNat*1<marksL.length∧(I64 (a1+1)∧K (Tok.mk (marksL.getD (0+((a0.getD a1.toNat 0).toNat:Int).toNat*1) 0) ([]:Bt) (0:Int) ([]:Bt) false) (a1+1))))))∧(y41=false→(I64 (a1+1)∧((0≤a1∧a1≤(a1+1)∧(a1+1)≤(a0.length:Int))∧(I64 (a1+1)∧K (Tok.mk (9:Int) ((a0.drop a1.toNat).take ((a1+1).toNat-a1.toNat)) (0:Int) ([]:Bt) false) (a1+1)))))))))))))))))))))))))))))))))))))))))))
def jbX (A78:Zb) (A94:zN) (A79:Zv) (A95:JbW) (A96:ZZ) (A97:Jt) (A98:jr) (A99:JbS) (A100:JS) (A92:ZA) (A101:ZX) (A102:zaD):jj sg:=tab [(78,con [none] (zi A78)),(94,con [none,none] (jam A94)),(79,con [none] (zC A79)),(95,con [none,none] (JbB A95)),(96,con [none,none] (ZaH A96)),(97,con [none,none] (Zy A97)),(98,con [none,none] (Zx A98)),(99,con [none,none] (Jbx A99)),(100,con [none,none] (zM A100)),(92,con [none,none] (zX A92)),(101,con [none,none] (zS A101)),(102,con [none] (Zar A102))]
theorem Jd1 (A78:Zb) (A94:zN) (A79:Zv) (A95:JbW) (A96:ZZ) (A97:Jt) (A98:jr) (A99:JbS) (A100:JS) (A92:ZA) (A101:ZX) (A102:zaD) (h78:FO ro 78 (zi A78)) (h94:FO ro 94 (jam A94)) (h79:FO ro 79 (zC A79)) (h95:FO ro 95 (JbB A95)) (h96:FO ro 96 (ZaH A96)) (h97:FO ro 97 (Zy A97)) (h98:FO ro 98 (Zx A98)) (h99:FO ro 99 (Jbx A99)) (h100:FO ro 100 (zM A100)) (h92:FO ro 92 (zX A92)) (h101:FO ro 101 (zS A101)) (h102:FO ro 102 (Zar A102)) (o0:Nat→Prop):zB sy Tryz.prog GT (ovD ro) o0 ro (jbX A78 A94 A79 A95 A96 A97 A98 A99 A100 A92 A101 A102):=(Za (Zc h78) (Za (Zc h94) (Za (Zc h79) (Za (Zc h95) (Za (Zc h96) (Za (Zc h97) (Za (Zc h98) (Za (Zc h99) (Za (Zc h100) (Za (Zc h92) (Za (Zc h101) (Za (Zc h102) Zd)))))))))))) o0
theorem zd2 (A78:Zb) (A94:zN) (A79:Zv) (A95:JbW) (A96:ZZ) (A97:Jt) (A98:jr) (A99:JbS) (A100:JS) (A92:ZA) (A101:ZX) (A102:zaD) (a0:Bt) (a1:Int) (k:W→Prop):fnT sy Tryz.prog GT (jbX A78 A94 A79 A95 A96 A97 A98 A99 A100 A92 A101 A102) noL Tryz.f69.ntmps (za Tryz.f69) [none,none] Tryz.f69.results.toList [.s a0,.i .i64 a1] k=zbX A78 A94 A79 A95 A96 A97 A98 A99 A100 A92 A101 A102 a0 a1 (fun r0 r1=>k (.t [.a [.i .u8 r0.kind,.s r0.text,.i .i64 r0.num,.s r0.unit,.b r0.flag],.i .i64 r1])):=by kernel_rfl
theorem Zet (A78:Zb) (A94:zN) (A79:Zv) (A95:JbW) (A96:ZZ) (A97:Jt) (A98:jr) (A99:JbS) (A100:JS) (A92:ZA) (A101:ZX) (A102:zaD) (h78:FO ro 78 (zi A78)) (h94:FO ro 94 (jam A94)) (h79:FO ro 79 (zC A79)) (h95:FO ro 95 (JbB A95)) (h96:FO ro 96 (ZaH A96)) (h97:FO ro 97 (Zy A97)) (h98:FO ro 98 (Zx A98)) (h99:FO ro 99 (Jbx A99)) (h100:FO ro 100 (zM A100)) (h92:FO ro 92 (zX A92)) (h101:FO ro 101 (zS A101)) (h102:FO ro 102 (Zar A102)):FO ro 69 (ZJ (zbX A78 A94 A79 A95 A96 A97 A98 A99 A100 A92 A101 A102)):=(zx (rc:=[none,none]) (f:=69) (fn:=Tryz.f69) (c:=za Tryz.f69) (nt:=Tryz.f69.ntmps) (res:=Tryz.f69.results.toList) (C:=jbX A78 A94 A79 A95 A96 A97 A98 A99 A100 A92 A101 A102) (L:=noL) (fun _ _=>rfl) Tryz.func69 (by kernel_rfl) rfl rfl (Jd1 A78 A94 A79 A95 A96 A97 A98 A99 A100 A92 A101 A102 h78 h94 h79 h95 h96 h97 h98 h99 h100 h92 h101 h102) (Ji (l:=[]) (by kernel_rfl) je)).weak (by
 intro us k h;unfold ZJ at h;split at h
 ·rw [zd2];exact h
 ·exact h.elim)
def ZbC:jj sg:=tab []
theorem ZbX (o0:Nat→Prop):zB sy Tryz.prog GT (ovD ro) o0 ro (ZbC):=Zd o0
def zac (A67:zK) (A68:Jh) (A69:Zr):Nat→Bt→Int→Int→List Tok→(List Tok→Prop)→(Int→List Tok→Prop)→Prop
 | 0,_,_,_,_,_,_=>False
 | n+1,x5,x7,x8,b1,Ke,Kr=>(((decide (x8<(x5.length:Int)))=true→(((decide (x7=1500))=true→Kr (4:Int) b1)∧((decide (x7=1500))=false→(A69 x5 x8 (fun y1 y2=>((b1.length+[(Tok.mk y1.kind y1.text y1.num y1.unit y1.flag)].length)*56≤1099511627776∧(I64 (x7+1)∧(A68 x5 y2 (fun y3=>zac A67 A68 A69 n x5 (x7+1) y3 (b1++[(Tok.mk y1.kind y1.text y1.num y1.unit y1.flag)]) Ke Kr)))))))))∧((decide (x8<(x5.length:Int)))=false→Ke b1))
def JaW (A67:zK) (A68:Jh) (A69:Zr):jj sg:=tab [(67,con [none] (jaf A67)),(68,con [none,none] (zp A68)),(69,con [none,none] (ZJ A69)),(37,inl sy Tryz.prog GT (ZbC) noL 1000 Tryz.f37.ntmps (za Tryz.f37) Tryz.f37.results.toList)]
theorem Jbe (A67:zK) (A68:Jh) (A69:Zr) (h67:FO ro 67 (jaf A67)) (h68:FO ro 68 (zp A68)) (h69:FO ro 69 (ZJ A69)) (o0:Nat→Prop):zB sy Tryz.prog GT (ovD ro) o0 ro (JaW A67 A68 A69):=(Za (Zc h67) (Za (Zc h68) (Za (Zc h69) (Za (Zc7 (f:=37) (fn:=Tryz.f37) (fun _ _=>rfl) Tryz.func37 (by kernel_rfl) rfl rfl (ZbX) (Ji (l:=[]) (by kernel_rfl) je)) Zd)))) o0
abbrev Zaz:Type:=((Unit×Unit)×(Bt)×Int×Int×Unit)
abbrev Yb_k_eachToken_tA_6:Type:=((Unit×Unit)×List (sg.Den Cd.tok)×Unit)
def ls_k_eachToken_tA_6:LS sy Zaz Yb_k_eachToken_tA_6:=⟨[.cell 0 0 1 Cd.tok],Jc 1 (vFn 37 (ja (jJ sy (.p 0 0)) (jq sy))) (Jc 5 (jl sy) (Jc 7 (Je sy .i64) (Jc 8 (Je sy .i64) (JD sy)))),Jb 0 (ja (jJ sy (.o 1)) (jq sy)) (zP 1 Cd.tok (zE sy)),2,[1]⟩
def le_k_eachToken_tA_6:LS sy Unit ((Unit×Unit)×List (sg.Den Cd.tok)×Unit):=⟨[],JD sy,Jb 0 (ja (jJ sy (.o 1)) (jq sy)) (zP 1 Cd.tok (zE sy)),2,[1]⟩
def lr_k_eachToken_tA_6:LS sy (Int×Unit) ((Unit×Unit)×List (sg.Den Cd.tok)×Unit):=⟨[],Jc 4 (Je sy .i64) (JD sy),Jb 0 (ja (jJ sy (.o 1)) (jq sy)) (zP 1 Cd.tok (zE sy)),2,[1]⟩
def jac (A67:zK) (A68:Jh) (A69:Zr) (n:Nat) (x:Zaz×Yb_k_eachToken_tA_6) (K:Ex→Z sg→Prop):Prop:=zac A67 A68 A69 n x.1.2.1 x.1.2.2.1 x.1.2.2.2.1 x.2.2.1 (fun y0=>K (.exit 0) (le_k_eachToken_tA_6.put ((),(((),()),y0,())))) (fun y0 y1=>K .ret (lr_k_eachToken_tA_6.put ((y0,()),(((),()),y1,()))))
def JcD (A67:zK) (A68:Jh) (A69:Zr) (z:Z sg) (K:Ex→Z sg→Prop):Prop:=ls_k_eachToken_tA_6.get z (fun x=>∃n,jac A67 A68 A69 n x K)
def Jaf (A67:zK) (A68:Jh) (A69:Zr):jV sg:=Zcn [(6,JcD A67 A68 A69)]
theorem Jcq (A67:zK) (A68:Jh) (A69:Zr) (n:Nat) (x:Zaz×Yb_k_eachToken_tA_6) (K:Ex→Z sg→Prop):Js (ls_k_eachToken_tA_6.put x) (fun z=>sC sy Tryz.prog GT (JaW A67 A68 A69) (Jaf A67 A68 A69) Tryz.f36.ntmps (zb (za Tryz.f36) 0) z (rnd ls_k_eachToken_tA_6 (czT 0 le_k_eachToken_tA_6 lr_k_eachToken_tA_6) (fun x=>jac A67 A68 A69 n x K) K))=jac A67 A68 A69 (n+1) x K:=by kernel_rfl
theorem zcr (A67:zK) (A68:Jh) (A69:Zr) (z:Z sg) (K:Ex→Z sg→Prop):(Jaf A67 A68 A69) (zb (za Tryz.f36) 0) z K=ls_k_eachToken_tA_6.get z (fun x=>∃n,jac A67 A68 A69 n x K):=by kernel_rfl
theorem jcr (A67:zK) (A68:Jh) (A69:Zr) (h67:FO ro 67 (jaf A67)) (h68:FO ro 68 (zp A68)) (h69:FO ro 69 (ZJ A69)):∀(o0:Nat→Prop) (B:Bs sg),B.E.length≤1→∀z K,(Jaf A67 A68 A69) (zb (za Tryz.f36) 0) z K→Sx.Sem sy Tryz.prog GT (ovD ro) o0 ro Tryz.f36.ntmps B (.loop (zb (za Tryz.f36) 0)) z K:=
 ZE (Jbe A67 A68 A69 h67 h68 h69) (Ji (l:=[]) (by kernel_rfl) je) ls_k_eachToken_tA_6 (by decide) (czT 0 le_k_eachToken_tA_6 lr_k_eachToken_tA_6) (fun _ _ hB=>JU 0 le_k_eachToken_tA_6 lr_k_eachToken_tA_6 (Nat.le_trans hB (by decide)) (Nat.le_trans hB (by decide))) (fun _ _ h=>h) (Jcq A67 A68 A69) (zcr A67 A68 A69)
theorem JcV (A67:zK) (A68:Jh) (A69:Zr) (h67:FO ro 67 (jaf A67)) (h68:FO ro 68 (zp A68)) (h69:FO ro 69 (ZJ A69)):Jb7 sy Tryz.prog GT (ovD ro) ro (Jaf A67 A68 A69) 1 Tryz.f36.ntmps (za Tryz.f36):=Ji (l:=[(zb (za Tryz.f36) 0)]) (by kernel_rfl) (jE (jcr A67 A68 A69 h67 h68 h69) je)
abbrev Z7:=Bt→(List Tok→Int→Prop)→Prop
def zag (A:Z7) (us:List W) (k:W→Prop):Prop:=match us with
 | [.s a0]=>A a0 (fun r0 r1=>k (.t [.l Cd.tok r0,.i .i64 r1]))
 | _=>False
theorem jd2 {A A2:Z7} (h:FO ro 18 (zag A)) (hA:∀a0 K,A2 a0 K→A a0 K):FO ro 18 (zag A2):=h.weak (by
 intro us k h;unfold zag at h ⊢;split at h
 ·exact hA _ _ h
 ·exact h.elim)
def zdH (A67:zK) (A68:Jh) (A69:Zr) (a0:Bt) (K:List Tok→Int→Prop):Prop:=
 (A67 a0 (fun y1 y2=>(((decide (y2≠0))=true→(((decide (y2≠0))=true→K ([]:List Tok) y2)∧((decide (y2≠0))=false→K ([]:List Tok) (0:Int))))∧((decide (y2≠0))=false→(A68 y1 (0:Int) (fun y3=>(∃m,zac A67 A68 A69 m y1 (0:Int) y3 ([]:List Tok) (fun y4=>(((decide ((0:Int)≠(0:Int)))=true→K ([]:List Tok) (0:Int))∧((decide ((0:Int)≠(0:Int)))=false→K y4 (0:Int)))) (fun y5 y6=>(((decide (y5≠0))=true→K ([]:List Tok) y5)∧((decide (y5≠0))=false→K y6 (0:Int)))))))))))
def jdH (A67:zK) (A68:Jh) (A69:Zr):jj sg:=tab [(36,inl sy Tryz.prog GT (JaW A67 A68 A69) (Jaf A67 A68 A69) 1 Tryz.f36.ntmps (za Tryz.f36) Tryz.f36.results.toList),(37,inl sy Tryz.prog GT (ZbC) noL 1000 Tryz.f37.ntmps (za Tryz.f37) Tryz.f37.results.toList)]
theorem Jfq (A67:zK) (A68:Jh) (A69:Zr) (h67:FO ro 67 (jaf A67)) (h68:FO ro 68 (zp A68)) (h69:FO ro 69 (ZJ A69)) (o0:Nat→Prop):zB sy Tryz.prog GT (ovD ro) o0 ro (jdH A67 A68 A69):=(Za (Zc7 (f:=36) (fn:=Tryz.f36) (fun _ _=>rfl) Tryz.func36 (by kernel_rfl) rfl rfl (Jbe A67 A68 A69 h67 h68 h69) (JcV A67 A68 A69 h67 h68 h69)) (Za (Zc7 (f:=37) (fn:=Tryz.f37) (fun _ _=>rfl) Tryz.func37 (by kernel_rfl) rfl rfl (ZbX) (Ji (l:=[]) (by kernel_rfl) je)) Zd)) o0
theorem zfr (A67:zK) (A68:Jh) (A69:Zr) (a0:Bt) (k:W→Prop):fnT sy Tryz.prog GT (jdH A67 A68 A69) noL Tryz.f18.ntmps (za Tryz.f18) [some Cd.tok,none] Tryz.f18.results.toList [.s a0] k=zdH A67 A68 A69 a0 (fun r0 r1=>k (.t [.l Cd.tok r0,.i .i64 r1])):=by kernel_rfl
theorem Jf7 (A67:zK) (A68:Jh) (A69:Zr) (h67:FO ro 67 (jaf A67)) (h68:FO ro 68 (zp A68)) (h69:FO ro 69 (ZJ A69)):FO ro 18 (zag (zdH A67 A68 A69)):=(zx (rc:=[some Cd.tok,none]) (f:=18) (fn:=Tryz.f18) (c:=za Tryz.f18) (nt:=Tryz.f18.ntmps) (res:=Tryz.f18.results.toList) (C:=jdH A67 A68 A69) (L:=noL) (fun _ _=>rfl) Tryz.func18 (by kernel_rfl) rfl rfl (Jfq A67 A68 A69 h67 h68 h69) (Ji (l:=[]) (by kernel_rfl) je)).weak (by
 intro us k h;unfold zag at h;split at h
 ·rw [zfr];exact h
 ·exact h.elim)
end Go.Proofs.YtmnegokadegioaaGreatDoor
