/- Lemmas. -/
import Derived.Test.YtplpmeednhcjkaaGreatDoorTd
namespace Go.Proofs.YtplpmeednhcjkaaGreatDoor
open Go.Proofs.Tryz
open Go.Vm Go.Sx Go.RowKit
variable {ro:Nat}
def syc:Sy sg:=sy.cv
abbrev zK:=Int->(Int->Prop)->Prop
def Zad (A:zK) (us:List W) (k:W->Prop):Prop:=match us with
 | [.i .u8 a0]=>A a0 (λr0=>k (.i .u8 r0))
 | _=>False
theorem JdY {A A2:zK} (h:FnOK syc prog GT (ovD ro) ro 35 (Zad A)) (hA:∀a0 K,A2 a0 K->A a0 K):FnOK syc prog GT (ovD ro) ro 35 (Zad A2):=h.weak (by intro us k h;unfold Zad at h |-;split at h;exact hA _ _ h;exact h.elim)
def jda (a0:Int) (K:Int->Prop):Prop:=
 (((decide (65<=a0))=true->(((decide (a0<=90))=true->K (IntKind.u8.wrap ((IntKind.u8.wrap (a0-65))+97)))/\((decide (a0<=90))=false->K a0)))/\((decide (65<=a0))=false->K a0))
def Zda:Zj sg:=tab []
theorem zfi (o0:Nat->Prop):jC syc prog GT (ovD ro) o0 ro (Zda):=Jd o0
theorem jfi (a0:Int) (k:W->Prop):fU syc (Zda) noL [none] f35 [.i .u8 a0] k=jda a0 (λr0=>k (.i .u8 r0)):=by kernel_rfl
theorem ZfN:FnOK syc prog GT (ovD ro) ro 35 (Zad (jda)):=(fB f35 (rc:=[none]) (C:=Zda) (L:=noL) (λ_ _=>rfl) func35 (by kernel_rfl) (zfi) (Ji (l:=[]) (by kernel_rfl) je)).weak (by intro us k h;unfold Zad at h;split at h;rw [jfi];exact h;exact h.elim)
abbrev JaH:=Bt->(Bt->Prop)->Prop
def zaw (A:JaH) (us:List W) (k:W->Prop):Prop:=match us with
 | [.s a0]=>A a0 (λr0=>k (.s r0))
 | _=>False
theorem zdZ {A A2:JaH} (h:FnOK syc prog GT (ovD ro) ro 22 (zaw A)) (hA:∀a0 K,A2 a0 K->A a0 K):FnOK syc prog GT (ovD ro) ro 22 (zaw A2):=h.weak (by intro us k h;unfold zaw at h |-;split at h;exact hA _ _ h;exact h.elim)
def jaw (A35:zK):Nat->Int->Bt->(Bt->Prop)->Prop
 | 0,_,_,_=>False
 | n+1,x4,b0,Ke=>(((decide (x4<(b0.length:Int)))=true->((0<=x4/\x4<(b0.length:Int))/\(x4.toNat<b0.length/\(A35 (UInt8.toNat (b0.getD x4.toNat (Ze Cd.u8)):Int) (λy1=>((0<=x4/\x4<(b0.length:Int))/\(x4.toNat<b0.length/\((0<=y1/\y1<=255)/\(I64 (x4+1)/\jaw A35 n (x4+1) (b0.set x4.toNat (UInt8.ofNat y1.toNat)) Ke)))))))))/\((decide (x4<(b0.length:Int)))=false->Ke b0))
def Jda (A35:zK) (a0:Bt) (K:Bt->Prop):Prop:=
 (a0.length<=1099511627776/\(∃m,jaw A35 m 0 a0 (λy1=>K y1)))
def Jck (A35:zK):Zj sg:=tab [(35,con [none] (Zad A35))]
theorem zdj (A35:zK) (h35:FnOK syc prog GT (ovD ro) ro 35 (Zad A35)) (o0:Nat->Prop):jC syc prog GT (ovD ro) o0 ro (Jck A35):=(Za (Jc h35) Jd) o0
abbrev ZbP:Type:=(Unit×Int×Unit)
abbrev Yb_r1_Lower_3:Type:=(List (sg.Den Cd.u8)×Unit)
def ls_r1_Lower_3:LS syc ZbP Yb_r1_Lower_3:=⟨[],zd 3 (ZK syc (.o 0)) (zd 4 (Je syc .i64) (jF syc)),ZQ 0 Cd.u8 (ZF syc),1,[]⟩
def le_r1_Lower_3:LS syc (Unit×Unit) (List (sg.Den Cd.u8)×Unit):=⟨[],zd 3 (ZK syc (.o 0)) (jF syc),ZQ 0 Cd.u8 (ZF syc),1,[]⟩
def JbP:LS syc Unit Unit:=⟨[],jF syc,ZF syc,0,[]⟩
def Za6 (A35:zK) (n:Nat) (x:ZbP×Yb_r1_Lower_3) (K:Ex->Z sg->Prop):Prop:=jaw A35 n x.1.2.1 x.2.1 (λy0=>K (.exit 0) (le_r1_Lower_3.put (((),()),(y0,()))))
def Zfi (A35:zK) (z:Z sg) (K:Ex->Z sg->Prop):Prop:=ls_r1_Lower_3.get z (λx=>∃n,Za6 A35 n x K)
def za9 (A35:zK):ZY sg:=Jcx [(3,Zfi A35)]
theorem ZeN (A35:zK) (n:Nat) (x:ZbP×Yb_r1_Lower_3) (K:Ex->Z sg->Prop):jt (ls_r1_Lower_3.put x) (λz=>sC syc prog GT (Jck A35) (za9 A35) f22.ntmps (zb (za f22) 0) z (rnd ls_r1_Lower_3 (czT 0 le_r1_Lower_3 JbP) (λx=>Za6 A35 n x K) K))=Za6 A35 (n+1) x K:=by kernel_rfl
theorem JeN (A35:zK) (z:Z sg) (K:Ex->Z sg->Prop):(za9 A35) (zb (za f22) 0) z K=ls_r1_Lower_3.get z (λx=>∃n,Za6 A35 n x K):=by kernel_rfl
theorem zeO (A35:zK) (h35:FnOK syc prog GT (ovD ro) ro 35 (Zad A35)):∀(o0:Nat->Prop) (B:Bs sg),B.E.length<=0->∀z K,(za9 A35) (zb (za f22) 0) z K->Sx.Sem syc prog GT (ovD ro) o0 ro f22.ntmps B (.loop (zb (za f22) 0)) z K:=
 zG (zdj A35 h35) (Ji (l:=[]) (by kernel_rfl) je) ls_r1_Lower_3 (by decide) (czT 0 le_r1_Lower_3 JbP) (λ_ _ hB=>zY 0 le_r1_Lower_3 JbP (Yb hB (by decide)) (Yb hB (by decide))) (λ_ _ h=>h) (ZeN A35) (JeN A35)
theorem JfN (A35:zK) (h35:FnOK syc prog GT (ovD ro) ro 35 (Zad A35)):zci syc prog GT (ovD ro) ro (za9 A35) 0 f22.ntmps (za f22):=Ji (l:=[(zb (za f22) 0)]) (by kernel_rfl) (JF (zeO A35 h35) je)
theorem Jfi (A35:zK) (a0:Bt) (k:W->Prop):fU syc (Jck A35) (za9 A35) [none] f22 [.s a0] k=Jda A35 a0 (λr0=>k (.s r0)):=by kernel_rfl
theorem zfO (A35:zK) (h35:FnOK syc prog GT (ovD ro) ro 35 (Zad A35)):FnOK syc prog GT (ovD ro) ro 22 (zaw (Jda A35)):=(fB f22 (rc:=[none]) (C:=Jck A35) (L:=(za9 A35)) (λ_ _=>rfl) func22 (by kernel_rfl) (zdj A35 h35) (JfN A35 h35)).weak (by intro us k h;unfold zaw at h;split at h;rw [Jfi];exact h;exact h.elim)
