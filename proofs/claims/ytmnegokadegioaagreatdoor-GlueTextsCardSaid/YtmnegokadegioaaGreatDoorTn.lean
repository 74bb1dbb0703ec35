/-
 The laws GlueTexts and GlueBack, followed. Nothing is claimed here.
-/
import Derived.Test.YtmnegokadegioaaGreatDoorTm
namespace Go.Proofs.YtmnegokadegioaaGreatDoor
open Go.Vm Go.Sx Go.RowKit
variable {ro:Nat}
abbrev JV:=(Bool→Prop)→Prop
def Zbc (A:JV) (us:List W) (k:W→Prop):Prop:=match us with
 | []=>A (fun r0=>k (.b r0))
 | _=>False
abbrev z8:=List Tok→(Bool→Prop)→Prop
def ZaO (A:z8) (us:List W) (k:W→Prop):Prop:=match us with
 | [.l Cd.tok a0]=>A a0 (fun r0=>k (.b r0))
 | _=>False
theorem ZeI {A A2:z8} (h:FP ro 19 (ZaO A)) (hA:∀a0 K,A2 a0 K→A a0 K):FP ro 19 (ZaO A2):=h.weak (by
 intro us k h;unfold ZaO at h ⊢;split at h
 ·exact hA _ _ h
 ·exact h.elim)
def JeI (A15:zaH) (a0:List Tok) (K:Bool→Prop):Prop:=
 (A15 a0 (fun y1=>K (decide (y1≠0))))
def zeJ (A15:zaH):Zj sg:=tab [(15,con [some Cd.tok] (Zaw A15))]
theorem Zgh (A15:zaH) (h15:FP ro 15 (Zaw A15)) (o0:Nat→Prop):CP ro o0 (zeJ A15):=(Za (Zc h15) jd) o0
theorem Jgh (A15:zaH) (a0:List Tok) (k:W→Prop):fnT syo Tryz.prog GT (zeJ A15) noL Tryz.f19.ntmps (za Tryz.f19) [none] Tryz.f19.results.toList [.l Cd.tok a0] k=JeI A15 a0 (fun r0=>k (.b r0)):=by kernel_rfl
theorem jg0 (A15:zaH) (h15:FP ro 15 (Zaw A15)):FP ro 19 (ZaO (JeI A15)):=(jx (rc:=[none]) (f:=19) (fn:=Tryz.f19) (c:=za Tryz.f19) (nt:=Tryz.f19.ntmps) (res:=Tryz.f19.results.toList) (C:=zeJ A15) (L:=noL) (fun _ _=>rfl) Tryz.func19 (by kernel_rfl) rfl rfl (Zgh A15 h15) (Ji (l:=[]) (by kernel_rfl) Zd)).weak (by
 intro us k h;unfold ZaO at h;split at h
 ·skip;rename_i a0;rw [Jgh A15 a0 k];exact h
 ·exact h.elim)
abbrev ZcN:=Bt→(Bool→Prop)→Prop
def zax (A:ZcN) (us:List W) (k:W→Prop):Prop:=match us with
 | [.s a0]=>A a0 (fun r0=>k (.b r0))
 | _=>False
theorem JcN {A A2:ZcN} (h:FP ro 5 (zax A)) (hA:∀a0 K,A2 a0 K→A a0 K):FP ro 5 (zax A2):=h.weak (by
 intro us k h;unfold zax at h ⊢;split at h
 ·exact hA _ _ h
 ·exact h.elim)
def JX (A17:JV) (A18:ZC) (A14:Jh) (A7:zK) (A19:z8) (A8:Jv) (A16:jS):Nat→List Tok→Int→(List Tok→Prop)→(Bool→Prop)→Prop
 | 0,_,_,_,_=>False
 | n+1,x3,x5,Ke,Kr=>(((decide (x5<(x3.length:Int)))=true→((0≤x5∧x5<(x3.length:Int))∧(((decide (((x3.getD x5.toNat (Ze Cd.tok)).kind)=(6:Int)))=false→((0≤x5∧x5<(x3.length:Int))∧(((decide (((x3.getD x5.toNat (Ze Cd.tok)).kind)=(8:Int)))=true→(A14 x3 (fun y1=>(((decide (y1=8))=true→(A17 (fun y2=>Kr y2)))∧((decide (y1=8))=false→Kr false)))))∧((decide (((x3.getD x5.toNat (Ze Cd.tok)).kind)=(8:Int)))=false→(I64 (x5+1)∧JX A17 A18 A14 A7 A19 A8 A16 n x3 (x5+1) Ke Kr)))))∧((decide (((x3.getD x5.toNat (Ze Cd.tok)).kind)=(6:Int)))=true→(A14 x3 (fun y3=>(((decide (y3=8))=true→(A17 (fun y4=>Kr y4)))∧((decide (y3=8))=false→Kr false))))))))∧((decide (x5<(x3.length:Int)))=false→Ke x3))
def ZbM (A17:JV) (A18:ZC) (A14:Jh) (A7:zK) (A19:z8) (A8:Jv) (A16:jS) (a0:Bt) (K:Bool→Prop):Prop:=
 (((decide ((500:Int)<(a0.length:Int)))=true→(A17 (fun y1=>K y1)))∧((decide ((500:Int)<(a0.length:Int)))=false→(A18 a0 (fun y2 y3=>(((decide (y3≠0))=true→(A17 (fun y4=>K y4)))∧((decide (y3≠0))=false→(∃m,JX A17 A18 A14 A7 A19 A8 A16 m y2 (0:Int) (fun y5=>(A7 y5 (fun y6=>((y6=false→(A19 y5 (fun y7=>((y7=true→(A17 (fun y8=>K y8)))∧(y7=false→(A8 y5 (fun y9 y10=>(((decide (y10≠0))=true→(((decide (y10=28))=true→(A17 (fun y11=>K y11)))∧((decide (y10=28))=false→K false)))∧((decide (y10≠0))=false→(A18 y9 (fun y12 y13=>(A8 y12 (fun y14 y15=>(((decide (y13=0))=true→(A16 y5 y12 (fun y16=>((y16=true→(((decide (y15=0))=true→(((y9==y14)=true→(A17 (fun y17=>K y17)))∧((y9==y14)=false→K false)))∧((decide (y15=0))=false→K false)))∧(y16=false→K false)))))∧((decide (y13=0))=false→K false)))))))))))))))∧(y6=true→(A17 (fun y18=>K y18))))))) (fun y19=>K y19))))))))
def ja4 (A17:JV) (A18:ZC) (A14:Jh) (A7:zK) (A19:z8) (A8:Jv) (A16:jS):Zj sg:=tab [(17,con [] (Zbc A17)),(18,con [none] (ZZ A18)),(14,con [some Cd.tok] (jv A14)),(7,con [some Cd.tok] (jac A7)),(19,con [some Cd.tok] (ZaO A19)),(8,con [some Cd.tok] (jP A8)),(16,con [some Cd.tok,some Cd.tok] (jas A16))]
theorem Zb7 (A17:JV) (A18:ZC) (A14:Jh) (A7:zK) (A19:z8) (A8:Jv) (A16:jS) (h17:FP ro 17 (Zbc A17)) (h18:FP ro 18 (ZZ A18)) (h14:FP ro 14 (jv A14)) (h7:FP ro 7 (jac A7)) (h19:FP ro 19 (ZaO A19)) (h8:FP ro 8 (jP A8)) (h16:FP ro 16 (jas A16)) (o0:Nat→Prop):CP ro o0 (ja4 A17 A18 A14 A7 A19 A8 A16):=(Za (Zc h17) (Za (Zc h18) (Za (Zc h14) (Za (Zc h7) (Za (Zc h19) (Za (Zc h8) (Za (Zc h16) jd))))))) o0
abbrev zaZ:Type:=((List (sg.Den Cd.tok))×Int×Unit)
abbrev Yb_l_GlueTexts_7:Type:=Unit
def ls_l_GlueTexts_7:LS syo zaZ Yb_l_GlueTexts_7:=⟨[],Jc 3 (zN syo Cd.tok) (Jc 5 (Je syo .i64) (JC syo)),zD syo,0,[]⟩
def le_l_GlueTexts_7:LS syo ((List (sg.Den Cd.tok))×Unit) Unit:=⟨[],Jc 3 (zN syo Cd.tok) (JC syo),zD syo,0,[]⟩
def lr_l_GlueTexts_7:LS syo (Bool×Unit) Unit:=⟨[],Jc 2 (Zn syo) (JC syo),zD syo,0,[]⟩
def jaB (A17:JV) (A18:ZC) (A14:Jh) (A7:zK) (A19:z8) (A8:Jv) (A16:jS) (n:Nat) (x:zaZ×Yb_l_GlueTexts_7) (K:Ex→Z sg→Prop):Prop:=JX A17 A18 A14 A7 A19 A8 A16 n x.1.1 x.1.2.1 (fun y0=>K (.exit 0) (le_l_GlueTexts_7.put ((y0,()),()))) (fun y0=>K .ret (lr_l_GlueTexts_7.put ((y0,()),())))
def zdY (A17:JV) (A18:ZC) (A14:Jh) (A7:zK) (A19:z8) (A8:Jv) (A16:jS) (z:Z sg) (K:Ex→Z sg→Prop):Prop:=ls_l_GlueTexts_7.get z (fun x=>∃n,jaB A17 A18 A14 A7 A19 A8 A16 n x K)
def jax (A17:JV) (A18:ZC) (A14:Jh) (A7:zK) (A19:z8) (A8:Jv) (A16:jS):ZW sg:=jcm [(7,zdY A17 A18 A14 A7 A19 A8 A16)]
theorem jdm (A17:JV) (A18:ZC) (A14:Jh) (A7:zK) (A19:z8) (A8:Jv) (A16:jS) (n:Nat) (x:zaZ×Yb_l_GlueTexts_7) (K:Ex→Z sg→Prop):zt (ls_l_GlueTexts_7.put x) (fun z=>sC syo Tryz.prog GT (ja4 A17 A18 A14 A7 A19 A8 A16) (jax A17 A18 A14 A7 A19 A8 A16) Tryz.f5.ntmps (zb (za Tryz.f5) 0) z (rnd ls_l_GlueTexts_7 (czT 0 le_l_GlueTexts_7 lr_l_GlueTexts_7) (fun x=>jaB A17 A18 A14 A7 A19 A8 A16 n x K) K))=jaB A17 A18 A14 A7 A19 A8 A16 (n+1) x K:=by kernel_rfl
theorem Zdm (A17:JV) (A18:ZC) (A14:Jh) (A7:zK) (A19:z8) (A8:Jv) (A16:jS) (z:Z sg) (K:Ex→Z sg→Prop):(jax A17 A18 A14 A7 A19 A8 A16) (zb (za Tryz.f5) 0) z K=ls_l_GlueTexts_7.get z (fun x=>∃n,jaB A17 A18 A14 A7 A19 A8 A16 n x K):=by kernel_rfl
theorem Jdm (A17:JV) (A18:ZC) (A14:Jh) (A7:zK) (A19:z8) (A8:Jv) (A16:jS) (h17:FP ro 17 (Zbc A17)) (h18:FP ro 18 (ZZ A18)) (h14:FP ro 14 (jv A14)) (h7:FP ro 7 (jac A7)) (h19:FP ro 19 (ZaO A19)) (h8:FP ro 8 (jP A8)) (h16:FP ro 16 (jas A16)):∀(o0:Nat→Prop) (B:Bs sg),B.E.length≤0→∀z K,(jax A17 A18 A14 A7 A19 A8 A16) (zb (za Tryz.f5) 0) z K→Sx.Sem syo Tryz.prog GT (ovD ro) o0 ro Tryz.f5.ntmps B (.loop (zb (za Tryz.f5) 0)) z K:=
 ZD (Zb7 A17 A18 A14 A7 A19 A8 A16 h17 h18 h14 h7 h19 h8 h16) (Ji (l:=[]) (by kernel_rfl) Zd) ls_l_GlueTexts_7 (by decide) (czT 0 le_l_GlueTexts_7 lr_l_GlueTexts_7) (fun _ _ hB=>ZV 0 le_l_GlueTexts_7 lr_l_GlueTexts_7 (Nat.le_trans hB (by decide)) (Nat.le_trans hB (by decide))) (fun _ _ h=>h) (jdm A17 A18 A14 A7 A19 A8 A16) (Zdm A17 A18 A14 A7 A19 A8 A16)
theorem zd9 (A17:JV) (A18:ZC) (A14:Jh) (A7:zK) (A19:z8) (A8:Jv) (A16:jS) (h17:FP ro 17 (Zbc A17)) (h18:FP ro 18 (ZZ A18)) (h14:FP ro 14 (jv A14)) (h7:FP ro 7 (jac A7)) (h19:FP ro 19 (ZaO A19)) (h8:FP ro 8 (jP A8)) (h16:FP ro 16 (jas A16)):jbV syo Tryz.prog GT (ovD ro) ro (jax A17 A18 A14 A7 A19 A8 A16) 0 Tryz.f5.ntmps (za Tryz.f5):=Ji (l:=[(zb (za Tryz.f5) 0)]) (by kernel_rfl) (jD (Jdm A17 A18 A14 A7 A19 A8 A16 h17 h18 h14 h7 h19 h8 h16) Zd)
theorem jdY (A17:JV) (A18:ZC) (A14:Jh) (A7:zK) (A19:z8) (A8:Jv) (A16:jS) (a0:Bt) (k:W→Prop):fnT syo Tryz.prog GT (ja4 A17 A18 A14 A7 A19 A8 A16) (jax A17 A18 A14 A7 A19 A8 A16) Tryz.f5.ntmps (za Tryz.f5) [none] Tryz.f5.results.toList [.s a0] k=ZbM A17 A18 A14 A7 A19 A8 A16 a0 (fun r0=>k (.b r0)):=by kernel_rfl
theorem jd9 (A17:JV) (A18:ZC) (A14:Jh) (A7:zK) (A19:z8) (A8:Jv) (A16:jS) (h17:FP ro 17 (Zbc A17)) (h18:FP ro 18 (ZZ A18)) (h14:FP ro 14 (jv A14)) (h7:FP ro 7 (jac A7)) (h19:FP ro 19 (ZaO A19)) (h8:FP ro 8 (jP A8)) (h16:FP ro 16 (jas A16)):FP ro 5 (zax (ZbM A17 A18 A14 A7 A19 A8 A16)):=(jx (rc:=[none]) (f:=5) (fn:=Tryz.f5) (c:=za Tryz.f5) (nt:=Tryz.f5.ntmps) (res:=Tryz.f5.results.toList) (C:=ja4 A17 A18 A14 A7 A19 A8 A16) (L:=(jax A17 A18 A14 A7 A19 A8 A16)) (fun _ _=>rfl) Tryz.func5 (by kernel_rfl) rfl rfl (Zb7 A17 A18 A14 A7 A19 A8 A16 h17 h18 h14 h7 h19 h8 h16) (zd9 A17 A18 A14 A7 A19 A8 A16 h17 h18 h14 h7 h19 h8 h16)).weak (by
 intro us k h;unfold zax at h;split at h
 ·rw [jdY];exact h
 ·exact h.elim)
end Go.Proofs.YtmnegokadegioaaGreatDoor
