/-
 Functions of the tokenizer, followed: tokens of all kinds, all tokens. Nothing is claimed here.
-/
import Derived.Test.YtmnegokadegioaaGreatDoorTg
namespace Go.Proofs.YtmnegokadegioaaGreatDoor
open Go.Vm Go.Sx Go.RowKit
variable {ro:Nat}
abbrev JaS:=Bt→Bt→(Int→Prop)→Prop
def zbu (A:JaS) (us:List W) (k:W→Prop):Prop:=match us with
 | [.s a0,.s a1]=>A a0 a1 (fun r0=>k (.i .i64 r0))
 | _=>False
abbrev JI:=Bt→Bt→(Int→Prop)→Prop
def J9 (A:JI) (us:List W) (k:W→Prop):Prop:=match us with
 | [.s a0,.s a1]=>A a0 a1 (fun r0=>k (.i .i64 r0))
 | _=>False
theorem ZdI {A A2:JI} (h:FO ro 93 (J9 A)) (hA:∀a0 a1 K,A2 a0 a1 K→A a0 a1 K):FO ro 93 (J9 A2):=h.weak (by
 intro us k h;unfold J9 at h ⊢;split at h
 ·exact hA _ _ _ h
 ·exact h.elim)
def jcX (A119:JaS) (a0:Bt) (a1:Bt) (K:Int→Prop):Prop:=
 (A119 a0 a1 (fun y1=>K y1))
def ZcX (A119:JaS):Zj sg:=tab [(119,con [none,none] (zbu A119))]
theorem ze1 (A119:JaS) (h119:FO ro 119 (zbu A119)) (o0:Nat→Prop):JB sy Tryz.prog GT (ovD ro) o0 ro (ZcX A119):=(Za (Zc h119) jd) o0
theorem je1 (A119:JaS) (a0:Bt) (a1:Bt) (k:W→Prop):fnT sy Tryz.prog GT (ZcX A119) noL Tryz.f93.ntmps (za Tryz.f93) [none] Tryz.f93.results.toList [.s a0,.s a1] k=jcX A119 a0 a1 (fun r0=>k (.i .i64 r0)):=by kernel_rfl
theorem Zfu (A119:JaS) (h119:FO ro 119 (zbu A119)):FO ro 93 (J9 (jcX A119)):=(jx (rc:=[none]) (f:=93) (fn:=Tryz.f93) (c:=za Tryz.f93) (nt:=Tryz.f93.ntmps) (res:=Tryz.f93.results.toList) (C:=ZcX A119) (L:=noL) (fun _ _=>rfl) Tryz.func93 (by kernel_rfl) rfl rfl (ze1 A119 h119) (Ji (l:=[]) (by kernel_rfl) Zd)).weak (by
 intro us k h;unfold J9 at h;split at h
 ·rw [je1];exact h
 ·exact h.elim)
abbrev jaF:=Int→(Bool→Prop)→Prop
def Zau (A:jaF) (us:List W) (k:W→Prop):Prop:=match us with
 | [.i .u8 a0]=>A a0 (fun r0=>k (.b r0))
 | _=>False
theorem JdI {A A2:jaF} (h:FO ro 102 (Zau A)) (hA:∀a0 K,A2 a0 K→A a0 K):FO ro 102 (Zau A2):=h.weak (by
 intro us k h;unfold Zau at h ⊢;split at h
 ·exact hA _ _ h
 ·exact h.elim)
def JcX (a0:Int) (K:Bool→Prop):Prop:=
 (I64 a0∧(((decide (a0<126))=true→((0≤a0∧a0<126)∧(0+a0.toNat*1<marksL.length∧K (decide ((marksL.getD (0+a0.toNat*1) 0)≠(0:Int))))))∧((decide (a0<126))=false→K false)))
def zcY:Zj sg:=tab []
theorem Ze1 (o0:Nat→Prop):JB sy Tryz.prog GT (ovD ro) o0 ro (zcY):=jd o0
theorem Je1 (a0:Int) (k:W→Prop):fnT sy Tryz.prog GT (zcY) noL Tryz.f102.ntmps (za Tryz.f102) [none] Tryz.f102.results.toList [.i .u8 a0] k=JcX a0 (fun r0=>k (.b r0)):=by kernel_rfl
theorem Jfu:FO ro 102 (Zau (JcX)):=(jx (rc:=[none]) (f:=102) (fn:=Tryz.f102) (c:=za Tryz.f102) (nt:=Tryz.f102.ntmps) (res:=Tryz.f102.results.toList) (C:=zcY) (L:=noL) (fun _ _=>rfl) Tryz.func102 (by kernel_rfl) rfl rfl (Ze1) (Ji (l:=[]) (by kernel_rfl) Zd)).weak (by
 intro us k h;unfold Zau at h;split at h
 ·rw [Je1];exact h
 ·exact h.elim)
abbrev jU:=Bt→Int→(Tok→Int→Prop)→Prop
def jN (A:jU) (us:List W) (k:W→Prop):Prop:=match us with
 | [.s a0,.i .i64 a1]=>A a0 a1 (fun r0 r1=>k (.t [.a [.i .u8 r0.kind,.s r0.text,.i .i64 r0.num,.s r0.unit,.b r0.flag],.i .i64 r1]))
 | _=>False
theorem jct {A A2:jU} (h:FO ro 100 (jN A)) (hA:∀a0 a1 K,A2 a0 a1 K→A a0 a1 K):FO ro 100 (jN A2):=h.weak (by
 intro us k h;unfold jN at h ⊢;split at h
 ·exact hA _ _ _ h
 ·exact h.elim)
def zbl (A125:jbX) (A97:zu) (A98:Jr) (A120:Ja) (a0:Bt) (a1:Int) (K:Tok→Int→Prop):Prop:=
 (A125 a0 a1 (fun y1 y2 y3=>(A97 a0 y3 (fun y4=>((y4=true→(A98 a0 y3 (fun y5 y6=>K (Tok.mk (12:Int) ([]:Bt) y1 y5 y2) y6)))∧(y4=false→(A120 a0 y3 (fun y7=>(((decide (y7=37))=true→(I64 (y3+1)∧K (Tok.mk (11:Int) ([]:Bt) y1 ([]:Bt) false) (y3+1)))∧((decide (y7=37))=false→K (Tok.mk (10:Int) ([]:Bt) y1 ([]:Bt) y2) y3))))))))))
def jbl (A125:jbX) (A97:zu) (A98:Jr) (A120:Ja):Zj sg:=tab [(125,con [none,none] (JbC A125)),(97,con [none,none] (zz A97)),(98,con [none,none] (zy A98)),(120,con [none,none] (Jd A120))]
theorem Jdg (A125:jbX) (A97:zu) (A98:Jr) (A120:Ja) (h125:FO ro 125 (JbC A125)) (h97:FO ro 97 (zz A97)) (h98:FO ro 98 (zy A98)) (h120:FO ro 120 (Jd A120)) (o0:Nat→Prop):JB sy Tryz.prog GT (ovD ro) o0 ro (jbl A125 A97 A98 A120):=(Za (Zc h125) (Za (Zc h97) (Za (Zc h98) (Za (Zc h120) jd)))) o0
theorem zdh (A125:jbX) (A97:zu) (A98:Jr) (A120:Ja) (a0:Bt) (a1:Int) (k:W→Prop):fnT sy Tryz.prog GT (jbl A125 A97 A98 A120) noL Tryz.f100.ntmps (za Tryz.f100) [none,none] Tryz.f100.results.toList [.s a0,.i .i64 a1] k=zbl A125 A97 A98 A120 a0 a1 (fun r0 r1=>k (.t [.a [.i .u8 r0.kind,.s r0.text,.i .i64 r0.num,.s r0.unit,.b r0.flag],.i .i64 r1])):=by kernel_rfl
theorem zdJ (A125:jbX) (A97:zu) (A98:Jr) (A120:Ja) (h125:FO ro 125 (JbC A125)) (h97:FO ro 97 (zz A97)) (h98:FO ro 98 (zy A98)) (h120:FO ro 120 (Jd A120)):FO ro 100 (jN (zbl A125 A97 A98 A120)):=(jx (rc:=[none,none]) (f:=100) (fn:=Tryz.f100) (c:=za Tryz.f100) (nt:=Tryz.f100.ntmps) (res:=Tryz.f100.results.toList) (C:=jbl A125 A97 A98 A120) (L:=noL) (fun _ _=>rfl) Tryz.func100 (by kernel_rfl) rfl rfl (Jdg A125 A97 A98 A120 h125 h97 h98 h120) (Ji (l:=[]) (by kernel_rfl) Zd)).weak (by
 intro us k h;unfold jN at h;split at h
 ·rw [zdh];exact h
 ·exact h.elim)
abbrev zi:=Bt→Int→(Int→Prop)→Prop
def jp (A:zi) (us:List W) (k:W→Prop):Prop:=match us with
 | [.s a0,.i .i64 a1]=>A a0 a1 (fun r0=>k (.i .i64 r0))
 | _=>False
theorem jbP {A A2:zi} (h:FO ro 68 (jp A)) (hA:∀a0 a1 K,A2 a0 a1 K→A a0 a1 K):FO ro 68 (jp A2):=h.weak (by
 intro us k h;unfold jp at h ⊢;split at h
 ·exact hA _ _ _ h
 ·exact h.elim)
def z7 (A92:jB) (A93:JI):Nat→Bt→Int→(Int→Prop)→(Int→Prop)→Prop
 | 0,_,_,_,_=>False
 | n+1,x0,x1,Ke,Kr=>((0≤x1∧x1≤(x0.length:Int))∧(A92 (x0.drop x1.toNat) ([47,42]:Bt) (fun y1=>((y1=true→(I64 (x1+2)∧((0≤(x1+2)∧(x1+2)≤(x0.length:Int))∧(A93 (x0.drop (x1+2).toNat) ([42,47]:Bt) (fun y2=>(((decide (y2<0))=true→Kr (x0.length:Int))∧((decide (y2<0))=false→(I64 (y2+2)∧(I64 ((x1+2)+(y2+2))∧z7 A92 A93 n x0 ((x1+2)+(y2+2)) Ke Kr)))))))))∧(y1=false→Ke x1)))))
def zaT (A92:jB) (A93:JI) (a0:Bt) (a1:Int) (K:Int→Prop):Prop:=
 (∃m,z7 A92 A93 m a0 a1 (fun y1=>K y1) (fun y2=>K y2))
def Jau (A92:jB) (A93:JI):Zj sg:=tab [(92,con [none,none] (JY A92)),(93,con [none,none] (J9 A93))]
theorem Ja8 (A92:jB) (A93:JI) (h92:FO ro 92 (JY A92)) (h93:FO ro 93 (J9 A93)) (o0:Nat→Prop):JB sy Tryz.prog GT (ovD ro) o0 ro (Jau A92 A93):=(Za (Zc h92) (Za (Zc h93) jd)) o0
abbrev Jax:Type:=((Bt)×Int×Unit)
abbrev Yb_behindCommentsA_1:Type:=Unit
def ls_behindCommentsA_1:LS sy Jax Yb_behindCommentsA_1:=⟨[],Jc 0 (Zl sy) (Jc 1 (Je sy .i64) (JC sy)),zD sy,0,[]⟩
def le_behindCommentsA_1:LS sy (Int×Unit) Unit:=⟨[],Jc 1 (Je sy .i64) (JC sy),zD sy,0,[]⟩
def lr_behindCommentsA_1:LS sy (Int×Unit) Unit:=⟨[],Jc 4 (Je sy .i64) (JC sy),zD sy,0,[]⟩
def j7 (A92:jB) (A93:JI) (n:Nat) (x:Jax×Yb_behindCommentsA_1) (K:Ex→Z sg→Prop):Prop:=z7 A92 A93 n x.1.1 x.1.2.1 (fun y0=>K (.exit 0) (le_behindCommentsA_1.put ((y0,()),()))) (fun y0=>K .ret (lr_behindCommentsA_1.put ((y0,()),())))
def Zct (A92:jB) (A93:JI) (z:Z sg) (K:Ex→Z sg→Prop):Prop:=ls_behindCommentsA_1.get z (fun x=>∃n,j7 A92 A93 n x K)
def zV (A92:jB) (A93:JI):ZW sg:=jcm [(1,Zct A92 A93)]
theorem Jch (A92:jB) (A93:JI) (n:Nat) (x:Jax×Yb_behindCommentsA_1) (K:Ex→Z sg→Prop):zt (ls_behindCommentsA_1.put x) (fun z=>sC sy Tryz.prog GT (Jau A92 A93) (zV A92 A93) Tryz.f68.ntmps (zb (za Tryz.f68) 0) z (rnd ls_behindCommentsA_1 (czT 0 le_behindCommentsA_1 lr_behindCommentsA_1) (fun x=>j7 A92 A93 n x K) K))=j7 A92 A93 (n+1) x K:=by kernel_rfl
theorem zci (A92:jB) (A93:JI) (z:Z sg) (K:Ex→Z sg→Prop):(zV A92 A93) (zb (za Tryz.f68) 0) z K=ls_behindCommentsA_1.get z (fun x=>∃n,j7 A92 A93 n x K):=by kernel_rfl
theorem jci (A92:jB) (A93:JI) (h92:FO ro 92 (JY A92)) (h93:FO ro 93 (J9 A93)):∀(o0:Nat→Prop) (B:Bs sg),B.E.length≤0→∀z K,(zV A92 A93) (zb (za Tryz.f68) 0) z K→Sx.Sem sy Tryz.prog GT (ovD ro) o0 ro Tryz.f68.ntmps B (.loop (zb (za Tryz.f68) 0)) z K:=
 ZD (Ja8 A92 A93 h92 h93) (Ji (l:=[]) (by kernel_rfl) Zd) ls_behindCommentsA_1 (by decide) (czT 0 le_behindCommentsA_1 lr_behindCommentsA_1) (fun _ _ hB=>ZV 0 le_behindCommentsA_1 lr_behindCommentsA_1 (Nat.le_trans hB (by decide)) (Nat.le_trans hB (by decide))) (fun _ _ h=>h) (Jch A92 A93) (zci A92 A93)
theorem JcF (A92:jB) (A93:JI) (h92:FO ro 92 (JY A92)) (h93:FO ro 93 (J9 A93)):jbV sy Tryz.prog GT (ovD ro) ro (zV A92 A93) 0 Tryz.f68.ntmps (za Tryz.f68):=Ji (l:=[(zb (za Tryz.f68) 0)]) (by kernel_rfl) (jD (jci A92 A93 h92 h93) Zd)
theorem Jct (A92:jB) (A93:JI) (a0:Bt) (a1:Int) (k:W→Prop):fnT sy Tryz.prog GT (Jau A92 A93) (zV A92 A93) Tryz.f68.ntmps (za Tryz.f68) [none] Tryz.f68.results.toList [.s a0,.i .i64 a1] k=zaT A92 A93 a0 a1 (fun r0=>k (.i .i64 r0)):=by kernel_rfl
theorem zcG (A92:jB) (A93:JI) (h92:FO ro 92 (JY A92)) (h93:FO ro 93 (J9 A93)):FO ro 68 (jp (zaT A92 A93)):=(jx (rc:=[none]) (f:=68) (fn:=Tryz.f68) (c:=za Tryz.f68) (nt:=Tryz.f68.ntmps) (res:=Tryz.f68.results.toList) (C:=Jau A92 A93) (L:=(zV A92 A93)) (fun _ _=>rfl) Tryz.func68 (by kernel_rfl) rfl rfl (Ja8 A92 A93 h92 h93) (JcF A92 A93 h92 h93)).weak (by
 intro us k h;unfold jp at h;split at h
 ·rw [Jct];exact h
 ·exact h.elim)
abbrev zs:=Bt→Int→(Tok→Int→Prop)→Prop
def ZK (A:zs) (us:List W) (k:W→Prop):Prop:=match us with
 | [.s a0,.i .i64 a1]=>A a0 a1 (fun r0 r1=>k (.t [.a [.i .u8 r0.kind,.s r0.text,.i .i64 r0.num,.s r0.unit,.b r0.flag],.i .i64 r1]))
 | _=>False
theorem jcY {A A2:zs} (h:FO ro 69 (ZK A)) (hA:∀a0 a1 K,A2 a0 a1 K→A a0 a1 K):FO ro 69 (ZK A2):=h.weak (by
 intro us k h;unfold ZK at h ⊢;split at h
 ·exact hA _ _ _ h
 ·exact h.elim)
def zb0 (A78:Zb) (A94:jO) (A79:zw) (A95:JbZ) (A96:J4) (A97:zu) (A98:Jr) (A99:JbV) (A100:jU) (A92:jB) (A101:jZ) (A102:jaF) (a0:Bt) (a1:Int) (K:Tok→Int→Prop):Prop:=
 ((0≤a1∧a1<(a0.length:Int))∧(A78 ((a0.getD a1.toNat 0).toNat:Int) (fun y1=>((y1=true→(A94 a0 a1 (fun y2=>K (Tok.mk (13:Int) ([]:Bt) (0:Int) ([]:Bt) false) y2)))∧(y1=false→((0≤a1∧a1<(a0.length:Int))∧(A79 ((a0.getD a1.toNat 0).toNat:Int) (fun y3=>((y3=true→(A95 a0 a1 (fun y4 y5=>K (Tok.mk y4.kind y4.text y4.num y4.unit y4.flag) y5)))∧(y3=false→((0≤a1∧a1<(a0.length:Int))∧(((decide (((a0.getD a1.toNat 0).toNat:Int)=(35:Int)))=true→(I64 (a1+1)∧(A96 a0 (a1+1) (fun y6=>((y6=true→(I64 (a1+1)∧(A97 a0 (a1+1) (fun y7=>(I64 (a1+1)∧(A98 a0 (a1+1) (fun y8 y9=>K (Tok.mk (4:Int) y8 (0:Int) ([]:Bt) y7) y9)))))))∧(y6=false→(A99 a0 a1 (fun y10=>((y10=true→(A100 a0 a1 (fun y11 y12=>K (Tok.mk y11.kind y11.text y11.num y11.unit y11.flag) y12)))∧(y10=false→((0≤a1∧a1≤(a0.length:Int))∧(A92 (a0.drop a1.toNat) ([45,45,62]:Bt) (fun y13=>((y13=true→(I64 (a1+3)∧K (Tok.mk (15:Int) ([]:Bt) (0:Int) ([]:Bt) false) (a1+3)))∧(y13=false→((0≤a1∧a1≤(a0.length:Int))∧(A92 (a0.drop a1.toNat) ([60,33,45,45]:Bt) (fun y14=>((y14=true→(I64 (a1+4)∧K (Tok.mk (14:Int) ([]:Bt) (0:Int) ([]:Bt) false) (a1+4)))∧(y14=false→((0≤a1∧a1<(a0.length:Int))∧(((decide (((a0.getD a1.toNat 0).toNat:Int)=(64:Int)))=true→(I64 (a1+1)∧(A97 a0 (a1+1) (fun y15=>((y15=true→(I64 (a1+1)∧(A98 a0 (a1+1) (fun y16 y17=>K (Tok.mk (3:Int) y16 (0:Int) ([]:Bt) false) y17))))∧(y15=false→(A97 a0 a1 (fun y18=>((y18=true→(A101 a0 a1 (fun y19 y20=>K (Tok.mk y19.kind y19.text y19.num y19.unit y19.flag) y20)))∧(y18=false→((0≤a1∧a1<(a0.length:Int))∧(A102 ((a0.getD a1.toNat 0).toNat:Int) (fun y21=>((y21=true→((0≤a1∧a1<(a0.length:Int))∧((0≤((a0.getD a1.toNat 0).toNat:Int)∧((a0.getD a1.toNat 0).toNat:Int)<(126:Int))∧(0+((a0.getD a1.toNat 0).toNat:Int).toNat*1<marksL.length∧(I64 (a1+1)∧K (Tok.mk (marksL.getD (0+((a0.getD a1.toNat 0).toNat:Int).toNat*1) 0) ([]:Bt) (0:Int) ([]:Bt) false) (a1+1))))))∧(y21=false→(I64 (a1+1)∧((0≤a1∧a1≤(a1+1)∧(a1+1)≤(a0.length:Int))∧(I64 (a1+1)∧K (Tok.mk (9:Int) ((a0.drop a1.toNat).take ((a1+1).toNat-a1.toNat)) (0:Int) ([]:Bt) false) (a1+1)))))))))))))))))))∧((decide (((a0.getD a1.toNat 0).toNat:Int)=(64:Int)))=false→(A97 a0 a1 (fun y22=>((y22=true→(A101 a0 a1 (fun y23 y24=>K (Tok.mk y23.kind y23.text y23.num y23.unit y23.flag) y24)))∧(y22=false→((0≤a1∧a1<(a0.length:Int))∧(A102 ((a0.getD a1.toNat 0).toNat:Int) (fun y25=>((y25=true→((0≤a1∧a1<(a0.length:Int))∧((0≤((a0.getD a1.toNat 0).toNat:Int)∧((a0.getD a1.toNat 0).toNat:Int)<(126:Int))∧(0+((a0.getD a1.toNat 0).toNat:Int).toNat*1<marksL.length∧(I64 (a1+1)∧K (Tok.mk (marksL.getD (0+((a0.getD a1.toNat 0).toNat:Int).toNat*1) 0) ([]:Bt) (0:Int) ([]:Bt) false) (a1+1))))))∧(y25=false→(I64 (a1+1)∧((0≤a1∧a1≤(a1+1)∧(a1+1)≤(a0.length:Int))∧(I64 (a1+1)∧K (Tok.mk (9:Int) ((a0.drop a1.toNat).take ((a1+1).toNat-a1.toNat)) (0:Int) ([]:Bt) false) (a1+1))))))))))))))))))))))))))))))))))))∧((decide (((a0.getD a1.toNat 0).toNat:Int)=(35:Int)))=false→(A99 a0 a1 (fun y26=>((y26=true→(A100 a0 a1 (fun y27 y28=>K (Tok.mk y27.kind y27.text y27.num y27.unit y27.flag) y28)))∧(y26=false→((0≤a1∧a1≤(a0.length:Int))∧(A92 (a0.drop a1.toNat) ([45,45,62]:Bt) (fun y29=>((y29=true→(I64 (a1+3)∧K (Tok.mk (15:Int) ([]:Bt) (0:Int) ([]:Bt) false) (a1+3)))∧(y29=false→((0≤a1∧a1≤(a0.length:Int))∧(A92 (a0.drop a1.toNat) ([60,33,45,45]:Bt) (fun y30=>((y30=true→(I64 (a1+4)∧K (Tok.mk (14:Int) ([]:Bt) (0:Int) ([]:Bt) false) (a1+4)))∧(y30=false→((0≤a1∧a1<(a0.length:Int))∧(((decide (((a0.getD a1.toNat 0).toNat:Int)=(64:Int)))=true→(I64 (a1+1)∧(A97 a0 (a1+1) (fun y31=>((y31=true→(I64 (a1+1)∧(A98 a0 (a1+1) (fun y32 y33=>K (Tok.mk (3:Int) y32 (0:Int) ([]:Bt) false) y33))))∧(y31=false→(A97 a0 a1 (fun y34=>((y34=true→(A101 a0 a1 (fun y35 y36=>K (Tok.mk y35.kind y35.text y35.num y35.unit y35.flag) y36)))∧(y34=false→((0≤a1∧a1<(a0.length:Int))∧(A102 ((a0.getD a1.toNat 0).toNat:Int) (fun y37=>((y37=true→((0≤a1∧a1<(a0.length:Int))∧((0≤((a0.getD a1.toNat 0).toNat:Int)∧((a0.getD a1.toNat 0).toNat:Int)<(126:Int))∧(0+((a0.getD a1.toNat 0).toNat:Int).toNat*1<marksL.length∧(I64 (a1+1)∧K (Tok.mk (marksL.getD (0+((a0.getD a1.toNat 0).toNat:Int).toNat*1) 0) ([]:Bt) (0:Int) ([]:Bt) false) (a1+1))))))∧(y37=false→(I64 (a1+1)∧((0≤a1∧a1≤(a1+1)∧(a1+1)≤(a0.length:Int))∧(I64 (a1+1)∧K (Tok.mk (9:Int) ((a0.drop a1.toNat).take ((a1+1).toNat-a1.toNat)) (0:Int) ([]:Bt) false) (a1+1)))))))))))))))))))∧((decide (((a0.getD a1.toNat 0).toNat:Int)=(64:Int)))=false→(A97 a0 a1 (fun y38=>((y38=true→(A101 a0 a1 (fun y39 y40=>K (Tok.mk y39.kind y39.text y39.num y39.unit y39.flag) y40)))∧(y38=false→((0≤a1∧a1<(a0.length:Int))∧(A102 ((a0.getD a1.toNat 0).toNat:Int) (fun y41=>((y41=true→((0≤a1∧a1<(a0.length:Int))∧((0≤((a0.getD a1.toNat 0).toNat:Int)∧((a0.getD a1.toNat 0).toNat:Int)<(126:Int))∧(0+((a0.getD a1.toNat 0).toNat:Int).toNat*1<marksL.length∧(I64 (a1+1)∧K (Tok.mk (marksL.getD (0+((a0.getD a1.toNat 0).toNat:Int).toNat*1) 0) ([]:Bt) (0:Int) ([]:Bt) false) (a1+1))))))∧(y41=false→(I64 (a1+1)∧((0≤a1∧a1≤(a1+1)∧(a1+1)≤(a0.length:Int))∧(I64 (a1+1)∧K (Tok.mk (9:Int) ((a0.drop a1.toNat).take ((a1+1).toNat-a1.toNat)) (0:Int) ([]:Bt) false) (a1+1)))))))))))))))))))))))))))))))))))))))))))
def jb0 (A78:Zb) (A94:jO) (A79:zw) (A95:JbZ) (A96:J4) (A97:zu) (A98:Jr) (A99:JbV) (A100:jU) (A92:jB) (A101:jZ) (A102:jaF):Zj sg:=tab [(78,con [none] (ji A78)),(94,con [none,none] (jao A94)),(79,con [none] (JD A79)),(95,con [none,none] (JbE A95)),(96,con [none,none] (jaJ A96)),(97,con [none,none] (zz A97)),(98,con [none,none] (zy A98)),(99,con [none,none] (JbA A99)),(100,con [none,none] (jN A100)),(92,con [none,none] (JY A92)),(101,con [none,none] (jT A101)),(102,con [none] (Zau A102))]
theorem zd5 (A78:Zb) (A94:jO) (A79:zw) (A95:JbZ) (A96:J4) (A97:zu) (A98:Jr) (A99:JbV) (A100:jU) (A92:jB) (A101:jZ) (A102:jaF) (h78:FO ro 78 (ji A78)) (h94:FO ro 94 (jao A94)) (h79:FO ro 79 (JD A79)) (h95:FO ro 95 (JbE A95)) (h96:FO ro 96 (jaJ A96)) (h97:FO ro 97 (zz A97)) (h98:FO ro 98 (zy A98)) (h99:FO ro 99 (JbA A99)) (h100:FO ro 100 (jN A100)) (h92:FO ro 92 (JY A92)) (h101:FO ro 101 (jT A101)) (h102:FO ro 102 (Zau A102)) (o0:Nat→Prop):JB sy Tryz.prog GT (ovD ro) o0 ro (jb0 A78 A94 A79 A95 A96 A97 A98 A99 A100 A92 A101 A102):=(Za (Zc h78) (Za (Zc h94) (Za (Zc h79) (Za (Zc h95) (Za (Zc h96) (Za (Zc h97) (Za (Zc h98) (Za (Zc h99) (Za (Zc h100) (Za (Zc h92) (Za (Zc h101) (Za (Zc h102) jd)))))))))))) o0
theorem jd5 (A78:Zb) (A94:jO) (A79:zw) (A95:JbZ) (A96:J4) (A97:zu) (A98:Jr) (A99:JbV) (A100:jU) (A92:jB) (A101:jZ) (A102:jaF) (a0:Bt) (a1:Int) (k:W→Prop):fnT sy Tryz.prog GT (jb0 A78 A94 A79 A95 A96 A97 A98 A99 A100 A92 A101 A102) noL Tryz.f69.ntmps (za Tryz.f69) [none,none] Tryz.f69.results.toList [.s a0,.i .i64 a1] k=zb0 A78 A94 A79 A95 A96 A97 A98 A99 A100 A92 A101 A102 a0 a1 (fun r0 r1=>k (.t [.a [.i .u8 r0.kind,.s r0.text,.i .i64 r0.num,.s r0.unit,.b r0.flag],.i .i64 r1])):=by kernel_rfl
theorem Zew (A78:Zb) (A94:jO) (A79:zw) (A95:JbZ) (A96:J4) (A97:zu) (A98:Jr) (A99:JbV) (A100:jU) (A92:jB) (A101:jZ) (A102:jaF) (h78:FO ro 78 (ji A78)) (h94:FO ro 94 (jao A94)) (h79:FO ro 79 (JD A79)) (h95:FO ro 95 (JbE A95)) (h96:FO ro 96 (jaJ A96)) (h97:FO ro 97 (zz A97)) (h98:FO ro 98 (zy A98)) (h99:FO ro 99 (JbA A99)) (h100:FO ro 100 (jN A100)) (h92:FO ro 92 (JY A92)) (h101:FO ro 101 (jT A101)) (h102:FO ro 102 (Zau A102)):FO ro 69 (ZK (zb0 A78 A94 A79 A95 A96 A97 A98 A99 A100 A92 A101 A102)):=(jx (rc:=[none,none]) (f:=69) (fn:=Tryz.f69) (c:=za Tryz.f69) (nt:=Tryz.f69.ntmps) (res:=Tryz.f69.results.toList) (C:=jb0 A78 A94 A79 A95 A96 A97 A98 A99 A100 A92 A101 A102) (L:=noL) (fun _ _=>rfl) Tryz.func69 (by kernel_rfl) rfl rfl (zd5 A78 A94 A79 A95 A96 A97 A98 A99 A100 A92 A101 A102 h78 h94 h79 h95 h96 h97 h98 h99 h100 h92 h101 h102) (Ji (l:=[]) (by kernel_rfl) Zd)).weak (by
 intro us k h;unfold ZK at h;split at h
 ·rw [jd5];exact h
 ·exact h.elim)
def ZbF:Zj sg:=tab []
theorem Zb0 (o0:Nat→Prop):JB sy Tryz.prog GT (ovD ro) o0 ro (ZbF):=jd o0
def zae (A67:jL) (A68:zi) (A69:zs):Nat→Bt→Int→Int→List Tok→(List Tok→Prop)→(Int→List Tok→Prop)→Prop
 | 0,_,_,_,_,_,_=>False
 | n+1,x5,x7,x8,b1,Ke,Kr=>(((decide (x8<(x5.length:Int)))=true→(((decide (x7=1500))=true→Kr (4:Int) b1)∧((decide (x7=1500))=false→(A69 x5 x8 (fun y1 y2=>((b1.length+[(Tok.mk y1.kind y1.text y1.num y1.unit y1.flag)].length)*56≤1099511627776∧(I64 (x7+1)∧(A68 x5 y2 (fun y3=>zae A67 A68 A69 n x5 (x7+1) y3 (b1++[(Tok.mk y1.kind y1.text y1.num y1.unit y1.flag)]) Ke Kr)))))))))∧((decide (x8<(x5.length:Int)))=false→Ke b1))
def ZaY (A67:jL) (A68:zi) (A69:zs):Zj sg:=tab [(67,con [none] (jah A67)),(68,con [none,none] (jp A68)),(69,con [none,none] (ZK A69)),(37,inl sy Tryz.prog GT (ZbF) noL 1000 Tryz.f37.ntmps (za Tryz.f37) Tryz.f37.results.toList)]
theorem zbh (A67:jL) (A68:zi) (A69:zs) (h67:FO ro 67 (jah A67)) (h68:FO ro 68 (jp A68)) (h69:FO ro 69 (ZK A69)) (o0:Nat→Prop):JB sy Tryz.prog GT (ovD ro) o0 ro (ZaY A67 A68 A69):=(Za (Zc h67) (Za (Zc h68) (Za (Zc h69) (Za (Jc9 (f:=37) (fn:=Tryz.f37) (fun _ _=>rfl) Tryz.func37 (by kernel_rfl) rfl rfl (Zb0) (Ji (l:=[]) (by kernel_rfl) Zd)) jd)))) o0
abbrev JaB:Type:=((Unit×Unit)×(Bt)×Int×Int×Unit)
abbrev Yb_k_eachToken_tA_6:Type:=((Unit×Unit)×List (sg.Den Cd.tok)×Unit)
def ls_k_eachToken_tA_6:LS sy JaB Yb_k_eachToken_tA_6:=⟨[.cell 0 0 1 Cd.tok],Jc 1 (vFn 37 (ja (jK sy (.p 0 0)) (Zq sy))) (Jc 5 (Zl sy) (Jc 7 (Je sy .i64) (Jc 8 (Je sy .i64) (JC sy)))),Jb 0 (ja (jK sy (.o 1)) (Zq sy)) (zQ 1 Cd.tok (zD sy)),2,[1]⟩
def le_k_eachToken_tA_6:LS sy Unit ((Unit×Unit)×List (sg.Den Cd.tok)×Unit):=⟨[],JC sy,Jb 0 (ja (jK sy (.o 1)) (Zq sy)) (zQ 1 Cd.tok (zD sy)),2,[1]⟩
def lr_k_eachToken_tA_6:LS sy (Int×Unit) ((Unit×Unit)×List (sg.Den Cd.tok)×Unit):=⟨[],Jc 4 (Je sy .i64) (JC sy),Jb 0 (ja (jK sy (.o 1)) (Zq sy)) (zQ 1 Cd.tok (zD sy)),2,[1]⟩
def jae (A67:jL) (A68:zi) (A69:zs) (n:Nat) (x:JaB×Yb_k_eachToken_tA_6) (K:Ex→Z sg→Prop):Prop:=zae A67 A68 A69 n x.1.2.1 x.1.2.2.1 x.1.2.2.2.1 x.2.2.1 (fun y0=>K (.exit 0) (le_k_eachToken_tA_6.put ((),(((),()),y0,())))) (fun y0 y1=>K .ret (lr_k_eachToken_tA_6.put ((y0,()),(((),()),y1,()))))
def jcG (A67:jL) (A68:zi) (A69:zs) (z:Z sg) (K:Ex→Z sg→Prop):Prop:=ls_k_eachToken_tA_6.get z (fun x=>∃n,jae A67 A68 A69 n x K)
def Jah (A67:jL) (A68:zi) (A69:zs):ZW sg:=jcm [(6,jcG A67 A68 A69)]
theorem zcu (A67:jL) (A68:zi) (A69:zs) (n:Nat) (x:JaB×Yb_k_eachToken_tA_6) (K:Ex→Z sg→Prop):zt (ls_k_eachToken_tA_6.put x) (fun z=>sC sy Tryz.prog GT (ZaY A67 A68 A69) (Jah A67 A68 A69) Tryz.f36.ntmps (zb (za Tryz.f36) 0) z (rnd ls_k_eachToken_tA_6 (czT 0 le_k_eachToken_tA_6 lr_k_eachToken_tA_6) (fun x=>jae A67 A68 A69 n x K) K))=jae A67 A68 A69 (n+1) x K:=by kernel_rfl
theorem jcu (A67:jL) (A68:zi) (A69:zs) (z:Z sg) (K:Ex→Z sg→Prop):(Jah A67 A68 A69) (zb (za Tryz.f36) 0) z K=ls_k_eachToken_tA_6.get z (fun x=>∃n,jae A67 A68 A69 n x K):=by kernel_rfl
theorem Zcu (A67:jL) (A68:zi) (A69:zs) (h67:FO ro 67 (jah A67)) (h68:FO ro 68 (jp A68)) (h69:FO ro 69 (ZK A69)):∀(o0:Nat→Prop) (B:Bs sg),B.E.length≤1→∀z K,(Jah A67 A68 A69) (zb (za Tryz.f36) 0) z K→Sx.Sem sy Tryz.prog GT (ovD ro) o0 ro Tryz.f36.ntmps B (.loop (zb (za Tryz.f36) 0)) z K:=
 ZD (zbh A67 A68 A69 h67 h68 h69) (Ji (l:=[]) (by kernel_rfl) Zd) ls_k_eachToken_tA_6 (by decide) (czT 0 le_k_eachToken_tA_6 lr_k_eachToken_tA_6) (fun _ _ hB=>ZV 0 le_k_eachToken_tA_6 lr_k_eachToken_tA_6 (Nat.le_trans hB (by decide)) (Nat.le_trans hB (by decide))) (fun _ _ h=>h) (zcu A67 A68 A69) (jcu A67 A68 A69)
theorem ZcY (A67:jL) (A68:zi) (A69:zs) (h67:FO ro 67 (jah A67)) (h68:FO ro 68 (jp A68)) (h69:FO ro 69 (ZK A69)):jbV sy Tryz.prog GT (ovD ro) ro (Jah A67 A68 A69) 1 Tryz.f36.ntmps (za Tryz.f36):=Ji (l:=[(zb (za Tryz.f36) 0)]) (by kernel_rfl) (jD (Zcu A67 A68 A69 h67 h68 h69) Zd)
abbrev ZC:=Bt→(List Tok→Int→Prop)→Prop
def ZZ (A:ZC) (us:List W) (k:W→Prop):Prop:=match us with
 | [.s a0]=>A a0 (fun r0 r1=>k (.t [.l Cd.tok r0,.i .i64 r1]))
 | _=>False
theorem Zd5 {A A2:ZC} (h:FO ro 18 (ZZ A)) (hA:∀a0 K,A2 a0 K→A a0 K):FO ro 18 (ZZ A2):=h.weak (by
 intro us k h;unfold ZZ at h ⊢;split at h
 ·exact hA _ _ h
 ·exact h.elim)
def jdJ (A67:jL) (A68:zi) (A69:zs) (a0:Bt) (K:List Tok→Int→Prop):Prop:=
 (A67 a0 (fun y1 y2=>(((decide (y2≠0))=true→(((decide (y2≠0))=true→K ([]:List Tok) y2)∧((decide (y2≠0))=false→K ([]:List Tok) (0:Int))))∧((decide (y2≠0))=false→(A68 y1 (0:Int) (fun y3=>(∃m,zae A67 A68 A69 m y1 (0:Int) y3 ([]:List Tok) (fun y4=>(((decide ((0:Int)≠(0:Int)))=true→K ([]:List Tok) (0:Int))∧((decide ((0:Int)≠(0:Int)))=false→K y4 (0:Int)))) (fun y5 y6=>(((decide (y5≠0))=true→K ([]:List Tok) y5)∧((decide (y5≠0))=false→K y6 (0:Int)))))))))))
def ZdJ (A67:jL) (A68:zi) (A69:zs):Zj sg:=tab [(36,inl sy Tryz.prog GT (ZaY A67 A68 A69) (Jah A67 A68 A69) 1 Tryz.f36.ntmps (za Tryz.f36) Tryz.f36.results.toList),(37,inl sy Tryz.prog GT (ZbF) noL 1000 Tryz.f37.ntmps (za Tryz.f37) Tryz.f37.results.toList)]
theorem zfv (A67:jL) (A68:zi) (A69:zs) (h67:FO ro 67 (jah A67)) (h68:FO ro 68 (jp A68)) (h69:FO ro 69 (ZK A69)) (o0:Nat→Prop):JB sy Tryz.prog GT (ovD ro) o0 ro (ZdJ A67 A68 A69):=(Za (Jc9 (f:=36) (fn:=Tryz.f36) (fun _ _=>rfl) Tryz.func36 (by kernel_rfl) rfl rfl (zbh A67 A68 A69 h67 h68 h69) (ZcY A67 A68 A69 h67 h68 h69)) (Za (Jc9 (f:=37) (fn:=Tryz.f37) (fun _ _=>rfl) Tryz.func37 (by kernel_rfl) rfl rfl (Zb0) (Ji (l:=[]) (by kernel_rfl) Zd)) jd)) o0
theorem jfv (A67:jL) (A68:zi) (A69:zs) (a0:Bt) (k:W→Prop):fnT sy Tryz.prog GT (ZdJ A67 A68 A69) noL Tryz.f18.ntmps (za Tryz.f18) [some Cd.tok,none] Tryz.f18.results.toList [.s a0] k=jdJ A67 A68 A69 a0 (fun r0 r1=>k (.t [.l Cd.tok r0,.i .i64 r1])):=by kernel_rfl
theorem jga (A67:jL) (A68:zi) (A69:zs) (h67:FO ro 67 (jah A67)) (h68:FO ro 68 (jp A68)) (h69:FO ro 69 (ZK A69)):FO ro 18 (ZZ (jdJ A67 A68 A69)):=(jx (rc:=[some Cd.tok,none]) (f:=18) (fn:=Tryz.f18) (c:=za Tryz.f18) (nt:=Tryz.f18.ntmps) (res:=Tryz.f18.results.toList) (C:=ZdJ A67 A68 A69) (L:=noL) (fun _ _=>rfl) Tryz.func18 (by kernel_rfl) rfl rfl (zfv A67 A68 A69 h67 h68 h69) (Ji (l:=[]) (by kernel_rfl) Zd)).weak (by
 intro us k h;unfold ZZ at h;split at h
 ·rw [jfv];exact h
 ·exact h.elim)
end Go.Proofs.YtmnegokadegioaaGreatDoor
