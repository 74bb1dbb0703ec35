/- Lemmas. -/
import Derived.Test.YtplpmeednhcjkaaGreatDoorTj
import Derived.Test.YtplpmeednhcjkaaGreatDoorTl
namespace Go.Proofs.YtplpmeednhcjkaaGreatDoor
open Go.Proofs.Tryz
open Go.Vm Go.Sx Go.RowKit
variable {ro:Nat}
abbrev jK:=Bt->Bt->(Bool->Prop)->Prop
def Jad (A:jK) (us:List W) (k:W->Prop):Prop:=match us with
 | [.s a0,.s a1]=>A a0 a1 (λr0=>k (.b r0))
 | _=>False
theorem jdZ {A A2:jK} (h:FP ro 11 (Jad A)) (hA:∀a0 a1 K,A2 a0 a1 K->A a0 a1 K):FP ro 11 (Jad A2):=h.weak (by intro us k h;unfold Jad at h |-;split at h;exact hA _ _ _ h;exact h.elim)
def zdb (A22:JaH) (a0:Bt) (a1:Bt) (K:Bool->Prop):Prop:=
 (A22 a0 (λy1=>(A22 a1 (λy2=>K (y1==y2)))))
def jdb (A22:JaH):Zj sg:=tab [(22,con [none] (zaw A22))]
theorem zfj (A22:JaH) (h22:FP ro 22 (zaw A22)) (o0:Nat->Prop):CP ro o0 (jdb A22):=(Za (Jc h22) Jd) o0
theorem jfj (A22:JaH) (a0:Bt) (a1:Bt) (k:W->Prop):fU syo (jdb A22) noL [none] f11 [.s a0,.s a1] k=zdb A22 a0 a1 (λr0=>k (.b r0)):=by kernel_rfl
theorem jfO (A22:JaH) (h22:FP ro 22 (zaw A22)):FP ro 11 (Jad (zdb A22)):=(fB f11 (rc:=[none]) (C:=jdb A22) (L:=noL) (λ_ _=>rfl) func11 (by kernel_rfl) (zfj A22 h22) (Ji (l:=[]) (by kernel_rfl) je)).weak (by intro us k h;unfold Jad at h;split at h;rw [jfj];exact h;exact h.elim)
abbrev zaI:=Int->(Bool->Prop)->Prop
def Zaw (A:zaI) (us:List W) (k:W->Prop):Prop:=match us with
 | [.i .u8 a0]=>A a0 (λr0=>k (.b r0))
 | _=>False
theorem ZdZ {A A2:zaI} (h:FP ro 33 (Zaw A)) (hA:∀a0 K,A2 a0 K->A a0 K):FP ro 33 (Zaw A2):=h.weak (by intro us k h;unfold Zaw at h |-;split at h;exact hA _ _ h;exact h.elim)
def Zdb (a0:Int) (K:Bool->Prop):Prop:=
 (((decide (48<=a0))=true->K (decide (a0<=57)))/\((decide (48<=a0))=false->K false))
def Jdb:Zj sg:=tab []
theorem Zfj (o0:Nat->Prop):CP ro o0 (Jdb):=Jd o0
theorem Jfj (a0:Int) (k:W->Prop):fU syo (Jdb) noL [none] f33 [.i .u8 a0] k=Zdb a0 (λr0=>k (.b r0)):=by kernel_rfl
theorem ZfO:FP ro 33 (Zaw (Zdb)):=(fB f33 (rc:=[none]) (C:=Jdb) (L:=noL) (λ_ _=>rfl) func33 (by kernel_rfl) (Zfj) (Ji (l:=[]) (by kernel_rfl) je)).weak (by intro us k h;unfold Zaw at h;split at h;rw [Jfj];exact h;exact h.elim)
abbrev za0:=List Tok->List Tok->(Bool->Prop)->Prop
def zaQ (A:za0) (us:List W) (k:W->Prop):Prop:=match us with
 | [.l Cd.tok a0,.l Cd.tok a1]=>A a0 a1 (λr0=>k (.b r0))
 | _=>False
theorem Zej {A A2:za0} (h:FP ro 9 (zaQ A)) (hA:∀a0 a1 K,A2 a0 a1 K->A a0 a1 K):FP ro 9 (zaQ A2):=h.weak (by intro us k h;unfold zaQ at h |-;split at h;exact hA _ _ _ h;exact h.elim)
def Jat:Nat->List Tok->List Tok->Int->(Unit->Prop)->(Bool->Prop)->Prop
 | 0,_,_,_,_,_=>False
 | n+1,x0,x1,x5,Ke,Kr=>(((decide (x5<(x0.length:Int)))=true->((0<=x5/\x5<(x0.length:Int))/\((0<=x5/\x5<(x1.length:Int))/\(((!(decide ((x0.getD x5.toNat (Ze Cd.tok)).kind=(x1.getD x5.toNat (Ze Cd.tok)).kind)&&((((x0.getD x5.toNat (Ze Cd.tok)).text)==((x1.getD x5.toNat (Ze Cd.tok)).text))&&(decide ((x0.getD x5.toNat (Ze Cd.tok)).num=(x1.getD x5.toNat (Ze Cd.tok)).num)&&((((x0.getD x5.toNat (Ze Cd.tok)).unit)==((x1.getD x5.toNat (Ze Cd.tok)).unit))&&((((x0.getD x5.toNat (Ze Cd.tok)).flag)==((x1.getD x5.toNat (Ze Cd.tok)).flag))&&true))))))=true->Kr false)/\((!(decide ((x0.getD x5.toNat (Ze Cd.tok)).kind=(x1.getD x5.toNat (Ze Cd.tok)).kind)&&((((x0.getD x5.toNat (Ze Cd.tok)).text)==((x1.getD x5.toNat (Ze Cd.tok)).text))&&(decide ((x0.getD x5.toNat (Ze Cd.tok)).num=(x1.getD x5.toNat (Ze Cd.tok)).num)&&((((x0.getD x5.toNat (Ze Cd.tok)).unit)==((x1.getD x5.toNat (Ze Cd.tok)).unit))&&((((x0.getD x5.toNat (Ze Cd.tok)).flag)==((x1.getD x5.toNat (Ze Cd.tok)).flag))&&true))))))=false->(I64 (x5+1)/\Jat n x0 x1 (x5+1) Ke Kr))))))/\((decide (x5<(x0.length:Int)))=false->Ke ()))
def JdZ (a0:List Tok) (a1:List Tok) (K:Bool->Prop):Prop:=
 (((decide ((a0.length:Int)≠(a1.length:Int)))=true->K false)/\((decide ((a0.length:Int)≠(a1.length:Int)))=false->(∃m,Jat m a0 a1 0 (λ_=>K true) (λy1=>K y1))))
def JcQ:Zj sg:=tab []
theorem zd0 (o0:Nat->Prop):CP ro o0 (JcQ):=Jd o0
abbrev Jcb:Type:=((List (sg.Den Cd.tok))×(List (sg.Den Cd.tok))×Int×Unit)
abbrev Yb_r2_Same_4:Type:=Unit
def ls_r2_Same_4:LS syo Jcb Yb_r2_Same_4:=⟨[],zd 0 (jQ syo Cd.tok) (zd 1 (jQ syo Cd.tok) (zd 5 (Je syo .i64) (jF syo))),ZF syo,0,[]⟩
def le_r2_Same_4:LS syo Unit Unit:=⟨[],jF syo,ZF syo,0,[]⟩
def lr_r2_Same_4:LS syo (Bool×Unit) Unit:=⟨[],zd 4 (Jn syo) (jF syo),ZF syo,0,[]⟩
def Jbm (n:Nat) (x:Jcb×Yb_r2_Same_4) (K:Ex->Z sg->Prop):Prop:=Jat n x.1.1 x.1.2.1 x.1.2.2.1 (λ_=>K (.exit 0) (le_r2_Same_4.put ((),()))) (λy0=>K .ret (lr_r2_Same_4.put ((y0,()),())))
def JfO (z:Z sg) (K:Ex->Z sg->Prop):Prop:=ls_r2_Same_4.get z (λx=>∃n,Jbm n x K)
def JbC:ZY sg:=Jcx [(4,JfO)]
theorem zfk (n:Nat) (x:Jcb×Yb_r2_Same_4) (K:Ex->Z sg->Prop):jt (ls_r2_Same_4.put x) (λz=>sC syo prog GT (JcQ) (JbC) f9.ntmps (zb (za f9) 0) z (rnd ls_r2_Same_4 (czT 0 le_r2_Same_4 lr_r2_Same_4) (λx=>Jbm n x K) K))=Jbm (n+1) x K:=by kernel_rfl
theorem jfk (z:Z sg) (K:Ex->Z sg->Prop):(JbC) (zb (za f9) 0) z K=ls_r2_Same_4.get z (λx=>∃n,Jbm n x K):=by kernel_rfl
theorem Zfk:∀(o0:Nat->Prop) (B:Bs sg),B.E.length<=0->∀z K,(JbC) (zb (za f9) 0) z K->Sx.Sem syo prog GT (ovD ro) o0 ro f9.ntmps B (.loop (zb (za f9) 0)) z K:=
 zG (zd0) (Ji (l:=[]) (by kernel_rfl) je) ls_r2_Same_4 (by decide) (czT 0 le_r2_Same_4 lr_r2_Same_4) (λ_ _ hB=>zY 0 le_r2_Same_4 lr_r2_Same_4 (Yb hB (by decide)) (Yb hB (by decide))) (λ_ _ h=>h) (zfk) (jfk)
theorem zgx:zci syo prog GT (ovD ro) ro (JbC) 0 f9.ntmps (za f9):=Ji (l:=[(zb (za f9) 0)]) (by kernel_rfl) (JF (Zfk) je)
theorem zfP (a0:List Tok) (a1:List Tok) (k:W->Prop):fU syo (JcQ) (JbC) [none] f9 [.l Cd.tok a0,.l Cd.tok a1] k=JdZ a0 a1 (λr0=>k (.b r0)):=by kernel_rfl
theorem jgx:FP ro 9 (zaQ (JdZ)):=(fB f9 (rc:=[none]) (C:=JcQ) (L:=(JbC)) (λ_ _=>rfl) func9 (by kernel_rfl) (zd0) (zgx)).weak (by
 intro us k h;unfold zaQ at h;split at h
 ·skip;rename_i a0 a1;rw [zfP a0 a1 k];exact h
 ·exact h.elim)
abbrev ZB:=Int->(Bool->Prop)->Prop
def zT (A:ZB) (us:List W) (k:W->Prop):Prop:=match us with
 | [.i .u8 a0]=>A a0 (λr0=>k (.b r0))
 | _=>False
abbrev jaI:=Bt->(Bool->Prop)->Prop
def Jaw (A:jaI) (us:List W) (k:W->Prop):Prop:=match us with
 | [.s a0]=>A a0 (λr0=>k (.b r0))
 | _=>False
theorem jd0 {A A2:jaI} (h:FP ro 19 (Jaw A)) (hA:∀a0 K,A2 a0 K->A a0 K):FP ro 19 (Jaw A2):=h.weak (by intro us k h;unfold Jaw at h |-;split at h;exact hA _ _ h;exact h.elim)
def Zah:Nat->Bt->Int->(Unit->Prop)->(Bool->Prop)->Prop
 | 0,_,_,_,_=>False
 | n+1,x0,x3,Ke,Kr=>(((decide (x3<(x0.length:Int)))=true->((0<=x3/\x3<(x0.length:Int))/\(((decide (((x0.getD x3.toNat 0).toNat:Int)=(0:Int)))=true->Kr false)/\((decide (((x0.getD x3.toNat 0).toNat:Int)=(0:Int)))=false->(I64 (x3+1)/\Zah n x0 (x3+1) Ke Kr)))))/\((decide (x3<(x0.length:Int)))=false->Ke ()))
def zdc (a0:Bt) (K:Bool->Prop):Prop:=
 (∃m,Zah m a0 0 (λ_=>K true) (λy1=>K y1))
def zcl:Zj sg:=tab []
theorem jdj (o0:Nat->Prop):CP ro o0 (zcl):=Jd o0
abbrev zbQ:Type:=((Bt)×Int×Unit)
abbrev Yb_r3_whole_2:Type:=Unit
def ls_r3_whole_2:LS syo zbQ Yb_r3_whole_2:=⟨[],zd 0 (Jl syo) (zd 3 (Je syo .i64) (jF syo)),ZF syo,0,[]⟩
def le_r3_whole_2:LS syo Unit Unit:=⟨[],jF syo,ZF syo,0,[]⟩
def lr_r3_whole_2:LS syo (Bool×Unit) Unit:=⟨[],zd 2 (Jn syo) (jF syo),ZF syo,0,[]⟩
def Ja6 (n:Nat) (x:zbQ×Yb_r3_whole_2) (K:Ex->Z sg->Prop):Prop:=Zah n x.1.1 x.1.2.1 (λ_=>K (.exit 0) (le_r3_whole_2.put ((),()))) (λy0=>K .ret (lr_r3_whole_2.put ((y0,()),())))
def Jfk (z:Z sg) (K:Ex->Z sg->Prop):Prop:=ls_r3_whole_2.get z (λx=>∃n,Ja6 n x K)
def ja9:ZY sg:=Jcx [(2,Jfk)]
theorem jeO (n:Nat) (x:zbQ×Yb_r3_whole_2) (K:Ex->Z sg->Prop):jt (ls_r3_whole_2.put x) (λz=>sC syo prog GT (zcl) (ja9) f19.ntmps (zb (za f19) 0) z (rnd ls_r3_whole_2 (czT 0 le_r3_whole_2 lr_r3_whole_2) (λx=>Ja6 n x K) K))=Ja6 (n+1) x K:=by kernel_rfl
theorem ZeO (z:Z sg) (K:Ex->Z sg->Prop):(ja9) (zb (za f19) 0) z K=ls_r3_whole_2.get z (λx=>∃n,Ja6 n x K):=by kernel_rfl
theorem JeO:∀(o0:Nat->Prop) (B:Bs sg),B.E.length<=0->∀z K,(ja9) (zb (za f19) 0) z K->Sx.Sem syo prog GT (ovD ro) o0 ro f19.ntmps B (.loop (zb (za f19) 0)) z K:=
 zG (jdj) (Ji (l:=[]) (by kernel_rfl) je) ls_r3_whole_2 (by decide) (czT 0 le_r3_whole_2 lr_r3_whole_2) (λ_ _ hB=>zY 0 le_r3_whole_2 lr_r3_whole_2 (Yb hB (by decide)) (Yb hB (by decide))) (λ_ _ h=>h) (jeO) (ZeO)
theorem jfP:zci syo prog GT (ovD ro) ro (ja9) 0 f19.ntmps (za f19):=Ji (l:=[(zb (za f19) 0)]) (by kernel_rfl) (JF (JeO) je)
theorem zfl (a0:Bt) (k:W->Prop):fU syo (zcl) (ja9) [none] f19 [.s a0] k=zdc a0 (λr0=>k (.b r0)):=by kernel_rfl
theorem ZfP:FP ro 19 (Jaw (zdc)):=(fB f19 (rc:=[none]) (C:=zcl) (L:=(ja9)) (λ_ _=>rfl) func19 (by kernel_rfl) (jdj) (jfP)).weak (by intro us k h;unfold Jaw at h;split at h;rw [zfl];exact h;exact h.elim)
abbrev ja0:=Bt->(Bool->Prop)->Prop
def jaQ (A:ja0) (us:List W) (k:W->Prop):Prop:=match us with
 | [.s a0]=>A a0 (λr0=>k (.b r0))
 | _=>False
theorem Jej {A A2:ja0} (h:FP ro 20 (jaQ A)) (hA:∀a0 K,A2 a0 K->A a0 K):FP ro 20 (jaQ A2):=h.weak (by intro us k h;unfold jaQ at h |-;split at h;exact hA _ _ h;exact h.elim)
def Zd0 (A33:zaI) (a0:Bt) (K:Bool->Prop):Prop:=
 (((a0==([]:Bt))=true->K false)/\((a0==([]:Bt))=false->((0<=(0:Int)/\0<(a0.length:Int))/\(A33 ((a0.getD 0 0).toNat:Int) (λy1=>((y1=false->(((a0==([45]:Bt))=false->((0<=(0:Int)/\0<(a0.length:Int))/\(((decide (((a0.getD 0 0).toNat:Int)=(45:Int)))=true->((0<=(1:Int)/\1<(a0.length:Int))/\(A33 ((a0.getD 1 0).toNat:Int) (λy2=>K y2))))/\((decide (((a0.getD 0 0).toNat:Int)=(45:Int)))=false->K false))))/\((a0==([45]:Bt))=true->K true)))/\(y1=true->K true)))))))
def Jd0 (A33:zaI):Zj sg:=tab [(33,con [none] (Zaw A33))]
theorem JfP (A33:zaI) (h33:FP ro 33 (Zaw A33)) (o0:Nat->Prop):CP ro o0 (Jd0 A33):=(Za (Jc h33) Jd) o0
theorem zfQ (A33:zaI) (a0:Bt) (k:W->Prop):fU syo (Jd0 A33) noL [none] f20 [.s a0] k=Zd0 A33 a0 (λr0=>k (.b r0)):=by kernel_rfl
theorem Zgx (A33:zaI) (h33:FP ro 33 (Zaw A33)):FP ro 20 (jaQ (Zd0 A33)):=(fB f20 (rc:=[none]) (C:=Jd0 A33) (L:=noL) (λ_ _=>rfl) func20 (by kernel_rfl) (JfP A33 h33) (Ji (l:=[]) (by kernel_rfl) je)).weak (by intro us k h;unfold jaQ at h;split at h;rw [zfQ];exact h;exact h.elim)
abbrev jT:=Tok->(Bool->Prop)->Prop
def zau (A:jT) (us:List W) (k:W->Prop):Prop:=match us with
 | [.a [.i .u8 a0_0,.s a0_1,.i .i64 a0_2,.s a0_3,.b a0_4]]=>A (Tok.mk a0_0 a0_1 a0_2 a0_3 a0_4) (λr0=>k (.b r0))
 | _=>False
theorem zek {A A2:jT} (h:FP ro 10 (zau A)) (hA:∀a0 K,A2 a0 K->A a0 K):FP ro 10 (zau A2):=h.weak (by intro us k h;unfold zau at h |-;split at h;exact hA _ _ h;exact h.elim)
def jak (A19:jaI) (A20:ja0) (A21:ZB) (a0:Tok) (K:Bool->Prop):Prop:=
 (((decide (a0.kind=1))=true->(((!(a0.text==([]:Bt)))=true->(A19 a0.text (λy1=>((y1=true->K (decide (a0.kind=a0.kind)&&((([]:Bt)==([]:Bt))&&(decide (a0.num=0)&&((a0.unit==([]:Bt))&&((a0.flag==false)&&true))))))/\(y1=false->K false)))))/\((!(a0.text==([]:Bt)))=false->K false)))/\((decide (a0.kind=1))=false->(((decide (a0.kind=2))=true->(((!(a0.text==([]:Bt)))=true->(A19 a0.text (λy2=>((y2=true->K (decide (a0.kind=a0.kind)&&((([]:Bt)==([]:Bt))&&(decide (a0.num=0)&&((a0.unit==([]:Bt))&&((a0.flag==false)&&true))))))/\(y2=false->K false)))))/\((!(a0.text==([]:Bt)))=false->K false)))/\((decide (a0.kind=2))=false->(((decide (a0.kind=3))=true->(((!(a0.text==([]:Bt)))=true->(A19 a0.text (λy3=>((y3=true->K (decide (a0.kind=a0.kind)&&((([]:Bt)==([]:Bt))&&(decide (a0.num=0)&&((a0.unit==([]:Bt))&&((a0.flag==false)&&true))))))/\(y3=false->K false)))))/\((!(a0.text==([]:Bt)))=false->K false)))/\((decide (a0.kind=3))=false->(((decide (a0.kind=4))=true->(((!(a0.text==([]:Bt)))=true->(A19 a0.text (λy4=>((y4=true->((a0.flag=false->(A20 a0.text (λy5=>((y5=true->K (decide (a0.kind=a0.kind)&&((([]:Bt)==([]:Bt))&&(decide (a0.num=0)&&((a0.unit==([]:Bt))&&((false==false)&&true))))))/\(y5=false->K false)))))/\(a0.flag=true->K (decide (a0.kind=a0.kind)&&((([]:Bt)==([]:Bt))&&(decide (a0.num=0)&&((a0.unit==([]:Bt))&&((false==false)&&true))))))))/\(y4=false->K false)))))/\((!(a0.text==([]:Bt)))=false->K false)))/\((decide (a0.kind=4))=false->(((decide (a0.kind=5))=true->(A19 a0.text (λy6=>((y6=true->K (decide (a0.kind=a0.kind)&&((([]:Bt)==([]:Bt))&&(decide (a0.num=0)&&((a0.unit==([]:Bt))&&((a0.flag==false)&&true))))))/\(y6=false->K false)))))/\((decide (a0.kind=5))=false->(((decide (a0.kind=7))=true->(A19 a0.text (λy7=>((y7=true->K (decide (a0.kind=a0.kind)&&((([]:Bt)==([]:Bt))&&(decide (a0.num=0)&&((a0.unit==([]:Bt))&&((a0.flag==false)&&true))))))/\(y7=false->K false)))))/\((decide (a0.kind=7))=false->(((decide (a0.kind=9))=true->(((decide ((a0.text.length:Int)=(1:Int)))=true->((0<=(0:Int)/\0<(a0.text.length:Int))/\(A21 ((a0.text.getD 0 0).toNat:Int) (λy8=>((y8=true->K (decide (a0.kind=a0.kind)&&((([]:Bt)==([]:Bt))&&(decide (a0.num=0)&&((a0.unit==([]:Bt))&&((a0.flag==false)&&true))))))/\(y8=false->K false))))))/\((decide ((a0.text.length:Int)=(1:Int)))=false->K false)))/\((decide (a0.kind=9))=false->(((decide (a0.kind=10))=true->((((!(a0.unit==([]:Bt)))==(decide (a0.kind=12)))=true->(A19 a0.unit (λy9=>(((decide ((-1000000000000:Int)<=a0.num))=true->(((decide (a0.num<=1000000000000))=true->(((!a0.flag)=false->((1000:Int)≠0/\(((decide ((a0.num.tmod 1000)=0))=true->((y9=true->(((decide (a0.kind≠11))=false->(((!a0.flag)=true->K (decide (a0.kind=a0.kind)&&((a0.text==([]:Bt))&&(decide (0=(0:Int))&&((([]:Bt)==([]:Bt))&&((false==false)&&true))))))/\((!a0.flag)=false->K false)))/\((decide (a0.kind≠11))=true->K (decide (a0.kind=a0.kind)&&((a0.text==([]:Bt))&&(decide (0=(0:Int))&&((([]:Bt)==([]:Bt))&&((false==false)&&true))))))))/\(y9=false->K false)))/\((decide ((a0.num.tmod 1000)=0))=false->K false))))/\((!a0.flag)=true->((y9=true->(((decide (a0.kind≠11))=false->(((!a0.flag)=true->K (decide (a0.kind=a0.kind)&&((a0.text==([]:Bt))&&(decide (0=(0:Int))&&((([]:Bt)==([]:Bt))&&((false==false)&&true))))))/\((!a0.flag)=false->K false)))/\((decide (a0.kind≠11))=true->K (decide (a0.kind=a0.kind)&&((a0.text==([]:Bt))&&(decide (0=(0:Int))&&((([]:Bt)==([]:Bt))&&((false==false)&&true))))))))/\(y9=false->K false)))))/\((decide (a0.num<=1000000000000))=false->K false)))/\((decide ((-1000000000000:Int)<=a0.num))=false->K false)))))/\(((!(a0.unit==([]:Bt)))==(decide (a0.kind=12)))=false->(((decide ((-1000000000000:Int)<=a0.num))=true->(((decide (a0.num<=1000000000000))=true->(((!a0.flag)=false->((1000:Int)≠0/\(((decide ((a0.num.tmod 1000)=0))=true->K false)/\((decide ((a0.num.tmod 1000)=0))=false->K false))))/\((!a0.flag)=true->K false)))/\((decide (a0.num<=1000000000000))=false->K false)))/\((decide ((-1000000000000:Int)<=a0.num))=false->K false)))))/\((decide (a0.kind=10))=false->(((decide (a0.kind=11))=true->((((!(a0.unit==([]:Bt)))==(decide (a0.kind=12)))=true->(A19 a0.unit (λy10=>(((decide ((-1000000000000:Int)<=a0.num))=true->(((decide (a0.num<=1000000000000))=true->(((!a0.flag)=false->((1000:Int)≠0/\(((decide ((a0.num.tmod 1000)=0))=true->((y10=true->(((decide (a0.kind≠11))=false->(((!a0.flag)=true->K (decide (a0.kind=a0.kind)&&((a0.text==([]:Bt))&&(decide (0=(0:Int))&&((([]:Bt)==([]:Bt))&&((false==false)&&true))))))/\((!a0.flag)=false->K false)))/\((decide (a0.kind≠11))=true->K (decide (a0.kind=a0.kind)&&((a0.text==([]:Bt))&&(decide (0=(0:Int))&&((([]:Bt)==([]:Bt))&&((false==false)&&true))))))))/\(y10=false->K false)))/\((decide ((a0.num.tmod 1000)=0))=false->K false))))/\((!a0.flag)=true->((y10=true->(((decide (a0.kind≠11))=false->(((!a0.flag)=true->K (decide (a0.kind=a0.kind)&&((a0.text==([]:Bt))&&(decide (0=(0:Int))&&((([]:Bt)==([]:Bt))&&((false==false)&&true))))))/\((!a0.flag)=false->K false)))/\((decide (a0.kind≠11))=true->K (decide (a0.kind=a0.kind)&&((a0.text==([]:Bt))&&(decide (0=(0:Int))&&((([]:Bt)==([]:Bt))&&((false==false)&&true))))))))/\(y10=false->K false)))))/\((decide (a0.num<=1000000000000))=false->K false)))/\((decide ((-1000000000000:Int)<=a0.num))=false->K false)))))/\(((!(a0.unit==([]:Bt)))==(decide (a0.kind=12)))=false->(((decide ((-1000000000000:Int)<=a0.num))=true->(((decide (a0.num<=1000000000000))=true->(((!a0.flag)=false->((1000:Int)≠0/\(((decide ((a0.num.tmod 1000)=0))=true->K false)/\((decide ((a0.num.tmod 1000)=0))=false->K false))))/\((!a0.flag)=true->K false)))/\((decide (a0.num<=1000000000000))=false->K false)))/\((decide ((-1000000000000:Int)<=a0.num))=false->K false)))))/\((decide (a0.kind=11))=false->(((decide (a0.kind=12))=true->((((!(a0.unit==([]:Bt)))==(decide (a0.kind=12)))=true->(A19 a0.unit (λy11=>(((decide ((-1000000000000:Int)<=a0.num))=true->(((decide (a0.num<=1000000000000))=true->(((!a0.flag)=false->((1000:Int)≠0/\(((decide ((a0.num.tmod 1000)=0))=true->((y11=true->(((decide (a0.kind≠11))=false->(((!a0.flag)=true->K (decide (a0.kind=a0.kind)&&((a0.text==([]:Bt))&&(decide (0=(0:Int))&&((([]:Bt)==([]:Bt))&&((false==false)&&true))))))/\((!a0.flag)=false->K false)))/\((decide (a0.kind≠11))=true->K (decide (a0.kind=a0.kind)&&((a0.text==([]:Bt))&&(decide (0=(0:Int))&&((([]:Bt)==([]:Bt))&&((false==false)&&true))))))))/\(y11=false->K false)))/\((decide ((a0.num.tmod 1000)=0))=false->K false))))/\((!a0.flag)=true->((y11=true->(((decide (a0.kind≠11))=false->(((!a0.flag)=true->K (decide (a0.kind=a0.kind)&&((a0.text==([]:Bt))&&(decide (0=(0:Int))&&((([]:Bt)==([]:Bt))&&((false==false)&&true))))))/\((!a0.flag)=false->K false)))/\((decide (a0.kind≠11))=true->K (decide (a0.kind=a0.kind)&&((a0.text==([]:Bt))&&(decide (0=(0:Int))&&((([]:Bt)==([]:Bt))&&((false==false)&&true))))))))/\(y11=false->K false)))))/\((decide (a0.num<=1000000000000))=false->K false)))/\((decide ((-1000000000000:Int)<=a0.num))=false->K false)))))/\(((!(a0.unit==([]:Bt)))==(decide (a0.kind=12)))=false->(((decide ((-1000000000000:Int)<=a0.num))=true->(((decide (a0.num<=1000000000000))=true->(((!a0.flag)=false->((1000:Int)≠0/\(((decide ((a0.num.tmod 1000)=0))=true->K false)/\((decide ((a0.num.tmod 1000)=0))=false->K false))))/\((!a0.flag)=true->K false)))/\((decide (a0.num<=1000000000000))=false->K false)))/\((decide ((-1000000000000:Int)<=a0.num))=false->K false)))))/\((decide (a0.kind=12))=false->(((decide (a0.kind=6))=true->K false)/\((decide (a0.kind=6))=false->(((decide (a0.kind=8))=true->K false)/\((decide (a0.kind=8))=false->(((decide (1<=a0.kind))=true->(((decide (a0.kind<=24))=true->K (decide (a0.kind=a0.kind)&&((a0.text==([]:Bt))&&(decide (a0.num=0)&&((a0.unit==([]:Bt))&&((a0.flag==false)&&true))))))/\((decide (a0.kind<=24))=false->K false)))/\((decide (1<=a0.kind))=false->K false))))))))))))))))))))))))))
def zd1 (A19:jaI) (A20:ja0) (A21:ZB):Zj sg:=tab [(19,con [none] (Jaw A19)),(20,con [none] (jaQ A20)),(21,con [none] (zT A21))]
theorem jfQ (A19:jaI) (A20:ja0) (A21:ZB) (h19:FP ro 19 (Jaw A19)) (h20:FP ro 20 (jaQ A20)) (h21:FP ro 21 (zT A21)) (o0:Nat->Prop):CP ro o0 (zd1 A19 A20 A21):=(Za (Jc h19) (Za (Jc h20) (Za (Jc h21) Jd))) o0
theorem ZfQ (A19:jaI) (A20:ja0) (A21:ZB) (a0:Tok) (k:W->Prop):fU syo (zd1 A19 A20 A21) noL [none] f10 [.a [.i .u8 a0.kind,.s a0.text,.i .i64 a0.num,.s a0.unit,.b a0.flag]] k=jak A19 A20 A21 a0 (λr0=>k (.b r0)):=by kernel_rfl
theorem Jgx (A19:jaI) (A20:ja0) (A21:ZB) (h19:FP ro 19 (Jaw A19)) (h20:FP ro 20 (jaQ A20)) (h21:FP ro 21 (zT A21)):FP ro 10 (zau (jak A19 A20 A21)):=(fB f10 (rc:=[none]) (C:=zd1 A19 A20 A21) (L:=noL) (λ_ _=>rfl) func10 (by kernel_rfl) (jfQ A19 A20 A21 h19 h20 h21) (Ji (l:=[]) (by kernel_rfl) je)).weak (by
 intro us k h;unfold zau at h;split at h
 ·skip;rename_i a0_0 a0_1 a0_2 a0_3 a0_4;rw [ZfQ A19 A20 A21 (Tok.mk a0_0 a0_1 a0_2 a0_3 a0_4) k];exact h
 ·exact h.elim)
abbrev ZaI:=List Tok->(Int->Prop)->Prop
def zax (A:ZaI) (us:List W) (k:W->Prop):Prop:=match us with
 | [.l Cd.tok a0]=>A a0 (λr0=>k (.i .i64 r0))
 | _=>False
theorem jd1 {A A2:ZaI} (h:FP ro 5 (zax A)) (hA:∀a0 K,A2 a0 K->A a0 K):FP ro 5 (zax A2):=h.weak (by intro us k h;unfold zax at h |-;split at h;exact hA _ _ h;exact h.elim)
def zf (A10:jT) (A11:jK):Nat->List Tok->Int->(Unit->Prop)->(Int->Prop)->Prop
 | 0,_,_,_,_=>False
 | n+1,x0,x3,Ke,Kr=>(((decide (x3<(x0.length:Int)))=true->((0<=x3/\x3<(x0.length:Int))/\(A10 (Tok.mk ((x0.getD x3.toNat (Ze Cd.tok)).kind) ((x0.getD x3.toNat (Ze Cd.tok)).text) ((x0.getD x3.toNat (Ze Cd.tok)).num) ((x0.getD x3.toNat (Ze Cd.tok)).unit) ((x0.getD x3.toNat (Ze Cd.tok)).flag)) (λy1=>(((!y1)=true->Kr 8)/\((!y1)=false->((0<=x3/\x3<(x0.length:Int))/\(((decide (((x0.getD x3.toNat (Ze Cd.tok)).kind)=(2:Int)))=true->((0<=x3/\x3<(x0.length:Int))/\(A11 ((x0.getD x3.toNat (Ze Cd.tok)).text) ([117,114,108]:Bt) (λy2=>((y2=true->(I64 (x3+1)/\(((decide ((x3+1)<(x0.length:Int)))=true->((0<=(x3+1)/\(x3+1)<(x0.length:Int))/\(((decide (((x0.getD ((x3+1).toNat) (Ze Cd.tok)).kind)=(13:Int)))=true->(I64 ((x3+1)+1)/\(((decide ((x0.length:Int)<=((x3+1)+1)))=false->((0<=((x3+1)+1)/\((x3+1)+1)<(x0.length:Int))/\(((decide (((x0.getD (((x3+1)+1).toNat) (Ze Cd.tok)).kind)≠(5:Int)))=true->Kr 8)/\((decide (((x0.getD (((x3+1)+1).toNat) (Ze Cd.tok)).kind)≠(5:Int)))=false->((0<=x3/\x3<(x0.length:Int))/\(((decide (((x0.getD x3.toNat (Ze Cd.tok)).kind)=(9:Int)))=true->((0<=x3/\x3<(x0.length:Int))/\(((((x0.getD x3.toNat (Ze Cd.tok)).text)==([92]:Bt))=true->(I64 (x3+1)/\(((decide ((x3+1)=(x0.length:Int)))=false->(I64 (x3+1)/\((0<=(x3+1)/\(x3+1)<(x0.length:Int))/\(((decide (((x0.getD ((x3+1).toNat) (Ze Cd.tok)).kind)≠(13:Int)))=true->Kr 8)/\((decide (((x0.getD ((x3+1).toNat) (Ze Cd.tok)).kind)≠(13:Int)))=false->(I64 (x3+1)/\zf A10 A11 n x0 (x3+1) Ke Kr))))))/\((decide ((x3+1)=(x0.length:Int)))=true->Kr 8))))/\((((x0.getD x3.toNat (Ze Cd.tok)).text)==([92]:Bt))=false->(I64 (x3+1)/\zf A10 A11 n x0 (x3+1) Ke Kr)))))/\((decide (((x0.getD x3.toNat (Ze Cd.tok)).kind)=(9:Int)))=false->(I64 (x3+1)/\zf A10 A11 n x0 (x3+1) Ke Kr))))))))/\((decide ((x0.length:Int)<=((x3+1)+1)))=true->Kr 8))))/\((decide (((x0.getD ((x3+1).toNat) (Ze Cd.tok)).kind)=(13:Int)))=false->(((decide ((x0.length:Int)<=(x3+1)))=false->((0<=(x3+1)/\(x3+1)<(x0.length:Int))/\(((decide (((x0.getD ((x3+1).toNat) (Ze Cd.tok)).kind)≠(5:Int)))=true->Kr 8)/\((decide (((x0.getD ((x3+1).toNat) (Ze Cd.tok)).kind)≠(5:Int)))=false->((0<=x3/\x3<(x0.length:Int))/\(((decide (((x0.getD x3.toNat (Ze Cd.tok)).kind)=(9:Int)))=true->((0<=x3/\x3<(x0.length:Int))/\(((((x0.getD x3.toNat (Ze Cd.tok)).text)==([92]:Bt))=true->(I64 (x3+1)/\(((decide ((x3+1)=(x0.length:Int)))=false->(I64 (x3+1)/\((0<=(x3+1)/\(x3+1)<(x0.length:Int))/\(((decide (((x0.getD ((x3+1).toNat) (Ze Cd.tok)).kind)≠(13:Int)))=true->Kr 8)/\((decide (((x0.getD ((x3+1).toNat) (Ze Cd.tok)).kind)≠(13:Int)))=false->(I64 (x3+1)/\zf A10 A11 n x0 (x3+1) Ke Kr))))))/\((decide ((x3+1)=(x0.length:Int)))=true->Kr 8))))/\((((x0.getD x3.toNat (Ze Cd.tok)).text)==([92]:Bt))=false->(I64 (x3+1)/\zf A10 A11 n x0 (x3+1) Ke Kr)))))/\((decide (((x0.getD x3.toNat (Ze Cd.tok)).kind)=(9:Int)))=false->(I64 (x3+1)/\zf A10 A11 n x0 (x3+1) Ke Kr))))))))/\((decide ((x0.length:Int)<=(x3+1)))=true->Kr 8))))))/\((decide ((x3+1)<(x0.length:Int)))=false->(((decide ((x0.length:Int)<=(x3+1)))=false->((0<=(x3+1)/\(x3+1)<(x0.length:Int))/\(((decide (((x0.getD ((x3+1).toNat) (Ze Cd.tok)).kind)≠(5:Int)))=true->Kr 8)/\((decide (((x0.getD ((x3+1).toNat) (Ze Cd.tok)).kind)≠(5:Int)))=false->((0<=x3/\x3<(x0.length:Int))/\(((decide (((x0.getD x3.toNat (Ze Cd.tok)).kind)=(9:Int)))=true->((0<=x3/\x3<(x0.length:Int))/\(((((x0.getD x3.toNat (Ze Cd.tok)).text)==([92]:Bt))=true->(I64 (x3+1)/\(((decide ((x3+1)=(x0.length:Int)))=false->(I64 (x3+1)/\((0<=(x3+1)/\(x3+1)<(x0.length:Int))/\(((decide (((x0.getD ((x3+1).toNat) (Ze Cd.tok)).kind)≠(13:Int)))=true->Kr 8)/\((decide (((x0.getD ((x3+1).toNat) (Ze Cd.tok)).kind)≠(13:Int)))=false->(I64 (x3+1)/\zf A10 A11 n x0 (x3+1) Ke Kr))))))/\((decide ((x3+1)=(x0.length:Int)))=true->Kr 8))))/\((((x0.getD x3.toNat (Ze Cd.tok)).text)==([92]:Bt))=false->(I64 (x3+1)/\zf A10 A11 n x0 (x3+1) Ke Kr)))))/\((decide (((x0.getD x3.toNat (Ze Cd.tok)).kind)=(9:Int)))=false->(I64 (x3+1)/\zf A10 A11 n x0 (x3+1) Ke Kr))))))))/\((decide ((x0.length:Int)<=(x3+1)))=true->Kr 8))))))/\(y2=false->((0<=x3/\x3<(x0.length:Int))/\(((decide (((x0.getD x3.toNat (Ze Cd.tok)).kind)=(9:Int)))=true->((0<=x3/\x3<(x0.length:Int))/\(((((x0.getD x3.toNat (Ze Cd.tok)).text)==([92]:Bt))=true->(I64 (x3+1)/\(((decide ((x3+1)=(x0.length:Int)))=false->(I64 (x3+1)/\((0<=(x3+1)/\(x3+1)<(x0.length:Int))/\(((decide (((x0.getD ((x3+1).toNat) (Ze Cd.tok)).kind)≠(13:Int)))=true->Kr 8)/\((decide (((x0.getD ((x3+1).toNat) (Ze Cd.tok)).kind)≠(13:Int)))=false->(I64 (x3+1)/\zf A10 A11 n x0 (x3+1) Ke Kr))))))/\((decide ((x3+1)=(x0.length:Int)))=true->Kr 8))))/\((((x0.getD x3.toNat (Ze Cd.tok)).text)==([92]:Bt))=false->(I64 (x3+1)/\zf A10 A11 n x0 (x3+1) Ke Kr)))))/\((decide (((x0.getD x3.toNat (Ze Cd.tok)).kind)=(9:Int)))=false->(I64 (x3+1)/\zf A10 A11 n x0 (x3+1) Ke Kr))))))))))/\((decide (((x0.getD x3.toNat (Ze Cd.tok)).kind)=(2:Int)))=false->((0<=x3/\x3<(x0.length:Int))/\(((decide (((x0.getD x3.toNat (Ze Cd.tok)).kind)=(9:Int)))=true->((0<=x3/\x3<(x0.length:Int))/\(((((x0.getD x3.toNat (Ze Cd.tok)).text)==([92]:Bt))=true->(I64 (x3+1)/\(((decide ((x3+1)=(x0.length:Int)))=false->(I64 (x3+1)/\((0<=(x3+1)/\(x3+1)<(x0.length:Int))/\(((decide (((x0.getD ((x3+1).toNat) (Ze Cd.tok)).kind)≠(13:Int)))=true->Kr 8)/\((decide (((x0.getD ((x3+1).toNat) (Ze Cd.tok)).kind)≠(13:Int)))=false->(I64 (x3+1)/\zf A10 A11 n x0 (x3+1) Ke Kr))))))/\((decide ((x3+1)=(x0.length:Int)))=true->Kr 8))))/\((((x0.getD x3.toNat (Ze Cd.tok)).text)==([92]:Bt))=false->(I64 (x3+1)/\zf A10 A11 n x0 (x3+1) Ke Kr)))))/\((decide (((x0.getD x3.toNat (Ze Cd.tok)).kind)=(9:Int)))=false->(I64 (x3+1)/\zf A10 A11 n x0 (x3+1) Ke Kr)))))))))))))/\((decide (x3<(x0.length:Int)))=false->Ke ()))
def jdc (A10:jT) (A11:jK) (a0:List Tok) (K:Int->Prop):Prop:=
 (((decide (1500<(a0.length:Int)))=true->K 4)/\((decide (1500<(a0.length:Int)))=false->(∃m,zf A10 A11 m a0 0 (λ_=>K 0) (λy1=>K y1))))
def jcl (A10:jT) (A11:jK):Zj sg:=tab [(10,con [none] (zau A10)),(11,con [none,none] (Jad A11))]
theorem Zdj (A10:jT) (A11:jK) (h10:FP ro 10 (zau A10)) (h11:FP ro 11 (Jad A11)) (o0:Nat->Prop):CP ro o0 (jcl A10 A11):=(Za (Jc h10) (Za (Jc h11) Jd)) o0
abbrev jbQ:Type:=((List (sg.Den Cd.tok))×Int×Unit)
abbrev Yb_r3_Check_4:Type:=Unit
def ls_r3_Check_4:LS syo jbQ Yb_r3_Check_4:=⟨[],zd 0 (jQ syo Cd.tok) (zd 3 (Je syo .i64) (jF syo)),ZF syo,0,[]⟩
def le_r3_Check_4:LS syo Unit Unit:=⟨[],jF syo,ZF syo,0,[]⟩
def lr_r3_Check_4:LS syo (Int×Unit) Unit:=⟨[],zd 2 (Je syo .i64) (jF syo),ZF syo,0,[]⟩
def za7 (A10:jT) (A11:jK) (n:Nat) (x:jbQ×Yb_r3_Check_4) (K:Ex->Z sg->Prop):Prop:=zf A10 A11 n x.1.1 x.1.2.1 (λ_=>K (.exit 0) (le_r3_Check_4.put ((),()))) (λy0=>K .ret (lr_r3_Check_4.put ((y0,()),())))
def jfl (A10:jT) (A11:jK) (z:Z sg) (K:Ex->Z sg->Prop):Prop:=ls_r3_Check_4.get z (λx=>∃n,za7 A10 A11 n x K)
def Za9 (A10:jT) (A11:jK):ZY sg:=Jcx [(4,jfl A10 A11)]
theorem zeP (A10:jT) (A11:jK) (n:Nat) (x:jbQ×Yb_r3_Check_4) (K:Ex->Z sg->Prop):jt (ls_r3_Check_4.put x) (λz=>sC syo prog GT (jcl A10 A11) (Za9 A10 A11) f5.ntmps (zb (za f5) 0) z (rnd ls_r3_Check_4 (czT 0 le_r3_Check_4 lr_r3_Check_4) (λx=>za7 A10 A11 n x K) K))=za7 A10 A11 (n+1) x K:=by kernel_rfl
theorem jeP (A10:jT) (A11:jK) (z:Z sg) (K:Ex->Z sg->Prop):(Za9 A10 A11) (zb (za f5) 0) z K=ls_r3_Check_4.get z (λx=>∃n,za7 A10 A11 n x K):=by kernel_rfl
theorem ZeP (A10:jT) (A11:jK) (h10:FP ro 10 (zau A10)) (h11:FP ro 11 (Jad A11)):∀(o0:Nat->Prop) (B:Bs sg),B.E.length<=0->∀z K,(Za9 A10 A11) (zb (za f5) 0) z K->Sx.Sem syo prog GT (ovD ro) o0 ro f5.ntmps B (.loop (zb (za f5) 0)) z K:=
 zG (Zdj A10 A11 h10 h11) (Ji (l:=[]) (by kernel_rfl) je) ls_r3_Check_4 (by decide) (czT 0 le_r3_Check_4 lr_r3_Check_4) (λ_ _ hB=>zY 0 le_r3_Check_4 lr_r3_Check_4 (Yb hB (by decide)) (Yb hB (by decide))) (λ_ _ h=>h) (zeP A10 A11) (jeP A10 A11)
theorem JfQ (A10:jT) (A11:jK) (h10:FP ro 10 (zau A10)) (h11:FP ro 11 (Jad A11)):zci syo prog GT (ovD ro) ro (Za9 A10 A11) 0 f5.ntmps (za f5):=Ji (l:=[(zb (za f5) 0)]) (by kernel_rfl) (JF (ZeP A10 A11 h10 h11) je)
theorem Zfl (A10:jT) (A11:jK) (a0:List Tok) (k:W->Prop):fU syo (jcl A10 A11) (Za9 A10 A11) [none] f5 [.l Cd.tok a0] k=jdc A10 A11 a0 (λr0=>k (.i .i64 r0)):=by kernel_rfl
theorem zfR (A10:jT) (A11:jK) (h10:FP ro 10 (zau A10)) (h11:FP ro 11 (Jad A11)):FP ro 5 (zax (jdc A10 A11)):=(fB f5 (rc:=[none]) (C:=jcl A10 A11) (L:=(Za9 A10 A11)) (λ_ _=>rfl) func5 (by kernel_rfl) (Zdj A10 A11 h10 h11) (JfQ A10 A11 h10 h11)).weak (by
 intro us k h;unfold zax at h;split at h
 ·skip;rename_i a0;rw [Zfl A10 A11 a0 k];exact h
 ·exact h.elim)
abbrev JaI:=List Tok->(Bool->Prop)->Prop
def jax (A:JaI) (us:List W) (k:W->Prop):Prop:=match us with
 | [.l Cd.tok a0]=>A a0 (λr0=>k (.b r0))
 | _=>False
theorem Zd1 {A A2:JaI} (h:FP ro 4 (jax A)) (hA:∀a0 K,A2 a0 K->A a0 K):FP ro 4 (jax A2):=h.weak (by intro us k h;unfold jax at h |-;split at h;exact hA _ _ h;exact h.elim)
def J5:Nat->List Tok->Int->Int->(Unit->Prop)->(Bool->Prop)->Prop
 | 0,_,_,_,_,_=>False
 | n+1,x0,x3,x4,Ke,Kr=>(((decide (x4<(x0.length:Int)))=true->((0<=x4/\x4<(x0.length:Int))/\((0<=x4/\x4<(x0.length:Int))/\(I64 ((((x0.getD x4.toNat (Ze Cd.tok)).text).length:Int)+(((x0.getD x4.toNat (Ze Cd.tok)).unit).length:Int))/\(I64 (x3+((((x0.getD x4.toNat (Ze Cd.tok)).text).length:Int)+(((x0.getD x4.toNat (Ze Cd.tok)).unit).length:Int)))/\(((decide (1000<(x3+((((x0.getD x4.toNat (Ze Cd.tok)).text).length:Int)+(((x0.getD x4.toNat (Ze Cd.tok)).unit).length:Int)))))=true->Kr true)/\((decide (1000<(x3+((((x0.getD x4.toNat (Ze Cd.tok)).text).length:Int)+(((x0.getD x4.toNat (Ze Cd.tok)).unit).length:Int)))))=false->(I64 (x4+1)/\J5 n x0 (x3+((((x0.getD x4.toNat (Ze Cd.tok)).text).length:Int)+(((x0.getD x4.toNat (Ze Cd.tok)).unit).length:Int))) (x4+1) Ke Kr))))))))/\((decide (x4<(x0.length:Int)))=false->Ke ()))
def Zdc (a0:List Tok) (K:Bool->Prop):Prop:=
 (((decide (100<(a0.length:Int)))=true->(((decide ((a0.length:Int)<=(1500:Int)))=false->(((decide (1510<(a0.length:Int)))=true->K true)/\((decide (1510<(a0.length:Int)))=false->(∃m,J5 m a0 0 0 (λ_=>K false) (λy1=>K y1)))))/\((decide ((a0.length:Int)<=(1500:Int)))=true->K true)))/\((decide (100<(a0.length:Int)))=false->(((decide (1510<(a0.length:Int)))=true->K true)/\((decide (1510<(a0.length:Int)))=false->(∃m,J5 m a0 0 0 (λ_=>K false) (λy2=>K y2))))))
def Zcl:Zj sg:=tab []
theorem Jdj (o0:Nat->Prop):CP ro o0 (Zcl):=Jd o0
abbrev ZbQ:Type:=((List (sg.Den Cd.tok))×Int×Int×Unit)
abbrev Yb_r3_Great_5:Type:=Unit
def ls_r3_Great_5:LS syo ZbQ Yb_r3_Great_5:=⟨[],zd 0 (jQ syo Cd.tok) (zd 3 (Je syo .i64) (zd 4 (Je syo .i64) (jF syo))),ZF syo,0,[]⟩
def le_r3_Great_5:LS syo Unit Unit:=⟨[],jF syo,ZF syo,0,[]⟩
def lr_r3_Great_5:LS syo (Bool×Unit) Unit:=⟨[],zd 2 (Jn syo) (jF syo),ZF syo,0,[]⟩
def ja7 (n:Nat) (x:ZbQ×Yb_r3_Great_5) (K:Ex->Z sg->Prop):Prop:=J5 n x.1.1 x.1.2.1 x.1.2.2.1 (λ_=>K (.exit 0) (le_r3_Great_5.put ((),()))) (λy0=>K .ret (lr_r3_Great_5.put ((y0,()),())))
def Jfl (z:Z sg) (K:Ex->Z sg->Prop):Prop:=ls_r3_Great_5.get z (λx=>∃n,ja7 n x K)
def Ja9:ZY sg:=Jcx [(5,Jfl)]
theorem JeP (n:Nat) (x:ZbQ×Yb_r3_Great_5) (K:Ex->Z sg->Prop):jt (ls_r3_Great_5.put x) (λz=>sC syo prog GT (Zcl) (Ja9) f4.ntmps (zb (za f4) 0) z (rnd ls_r3_Great_5 (czT 0 le_r3_Great_5 lr_r3_Great_5) (λx=>ja7 n x K) K))=ja7 (n+1) x K:=by kernel_rfl
theorem zeQ (z:Z sg) (K:Ex->Z sg->Prop):(Ja9) (zb (za f4) 0) z K=ls_r3_Great_5.get z (λx=>∃n,ja7 n x K):=by kernel_rfl
theorem jeQ:∀(o0:Nat->Prop) (B:Bs sg),B.E.length<=0->∀z K,(Ja9) (zb (za f4) 0) z K->Sx.Sem syo prog GT (ovD ro) o0 ro f4.ntmps B (.loop (zb (za f4) 0)) z K:=
 zG (Jdj) (Ji (l:=[]) (by kernel_rfl) je) ls_r3_Great_5 (by decide) (czT 0 le_r3_Great_5 lr_r3_Great_5) (λ_ _ hB=>zY 0 le_r3_Great_5 lr_r3_Great_5 (Yb hB (by decide)) (Yb hB (by decide))) (λ_ _ h=>h) (JeP) (zeQ)
theorem jfR:zci syo prog GT (ovD ro) ro (Ja9) 0 f4.ntmps (za f4):=Ji (l:=[(zb (za f4) 0)]) (by kernel_rfl) (JF (jeQ) je)
theorem zfm (a0:List Tok) (k:W->Prop):fU syo (Zcl) (Ja9) [none] f4 [.l Cd.tok a0] k=Zdc a0 (λr0=>k (.b r0)):=by kernel_rfl
theorem ZfR:FP ro 4 (jax (Zdc)):=(fB f4 (rc:=[none]) (C:=Zcl) (L:=(Ja9)) (λ_ _=>rfl) func4 (by kernel_rfl) (Jdj) (jfR)).weak (by
 intro us k h;unfold jax at h;split at h
 ·skip;rename_i a0;rw [zfm a0 k];exact h
 ·exact h.elim)
