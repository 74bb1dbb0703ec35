/- Lemmas. -/
import Derived.Test.YtplpmeednhcjkaaGreatDoorTm
namespace Go.Proofs.YtplpmeednhcjkaaGreatDoor
open Go.Proofs.Tryz
open Go.Vm Go.Sx Go.RowKit
variable {ro:Nat}
abbrev Jbg:=(Bool->Prop)->Prop
def zcf (A:Jbg) (us:List W) (k:W->Prop):Prop:=match us with
 | []=>A (λr0=>k (.b r0))
 | _=>False
abbrev ZcU:=List Tok->Int->(Bool->Prop)->Prop
def Zay (A:ZcU) (us:List W) (k:W->Prop):Prop:=match us with
 | [.l Cd.tok a0,.i .i64 a1]=>A a0 a1 (λr0=>k (.b r0))
 | _=>False
theorem JcU {A A2:ZcU} (h:FP ro 3 (Zay A)) (hA:∀a0 a1 K,A2 a0 a1 K->A a0 a1 K):FP ro 3 (Zay A2):=h.weak (by intro us k h;unfold Zay at h |-;split at h;exact hA _ _ _ h;exact h.elim)
def jbS (A4:JaI) (A5:ZaI) (A6:Jbg) (A7:Jae) (A8:Zab) (A9:za0) (a0:List Tok) (a1:Int) (K:Bool->Prop):Prop:=
 (A4 a0 (λy1=>((y1=false->(A5 a0 (λy2=>(((decide (y2≠0))=false->(((decide (a1<1))=false->(((decide ((a0.length:Int)<=a1))=false->((0<=a1/\a1<=(a0.length:Int))/\(A5 (a0.take a1.toNat) (λy3=>(((decide (y3≠0))=false->((0<=a1/\a1<=(a0.length:Int))/\(A5 (a0.drop a1.toNat) (λy4=>(((decide (y4≠0))=true->(A6 (λy5=>K y5)))/\((decide (y4≠0))=false->(A7 a0 (λy6 y7=>((0<=a1/\a1<=(a0.length:Int))/\(A7 (a0.take a1.toNat) (λy8 y9=>(((decide (y7≠0))=false->(((decide (y9≠0))=true->(((decide (y7=28))=true->(A6 (λy10=>K y10)))/\((decide (y7=28))=false->K false)))/\((decide (y9≠0))=false->(((decide ((y6.length:Int)<(y8.length:Int)))=false->((0<=(y8.length:Int)/\(y8.length:Int)<=(y6.length:Int))/\(((!((y6.take (y8.length:Int).toNat)==y8))=true->K false)/\((!((y6.take (y8.length:Int).toNat)==y8))=false->((0<=(y8.length:Int)/\(y8.length:Int)<=(y6.length:Int))/\(A8 (y6.drop (y8.length:Int).toNat) (λy11 y12=>(((decide (y12≠0))=false->((0<=a1/\a1<=(a0.length:Int))/\(A9 y11 (a0.drop a1.toNat) (λy13=>(((!y13)=true->K false)/\((!y13)=false->(((decide (((y6.drop (y8.length:Int).toNat).length:Int)<(4:Int)))=false->((0<=(4:Int)/\4<=((y6.drop (y8.length:Int).toNat).length:Int))/\(((!(((y6.drop (y8.length:Int).toNat).take 4)==([47,42,42,47]:Bt)))=true->(A6 (λy14=>K y14)))/\((!(((y6.drop (y8.length:Int).toNat).take 4)==([47,42,42,47]:Bt)))=false->((0<=(4:Int)/\4<=((y6.drop (y8.length:Int).toNat).length:Int))/\(y8.length+((y6.drop (y8.length:Int).toNat).drop 4).length<=1099511627776/\(A8 (y8++((y6.drop (y8.length:Int).toNat).drop 4)) (λy15 y16=>(((decide (y16≠0))=false->(A9 y15 a0 (λy17=>(((!y17)=true->(A6 (λy18=>K y18)))/\((!y17)=false->K false)))))/\((decide (y16≠0))=true->(A6 (λy19=>K y19))))))))))))/\((decide (((y6.drop (y8.length:Int).toNat).length:Int)<(4:Int)))=true->(A6 (λy20=>K y20))))))))))/\((decide (y12≠0))=true->K false)))))))))/\((decide ((y6.length:Int)<(y8.length:Int)))=true->K false)))))/\((decide (y7≠0))=true->(((decide (y7=28))=true->(A6 (λy21=>K y21)))/\((decide (y7=28))=false->K false)))))))))))))))/\((decide (y3≠0))=true->(A6 (λy22=>K y22))))))))/\((decide ((a0.length:Int)<=a1))=true->(A6 (λy23=>K y23)))))/\((decide (a1<1))=true->(A6 (λy24=>K y24)))))/\((decide (y2≠0))=true->(A6 (λy25=>K y25)))))))/\(y1=true->(A6 (λy26=>K y26))))))
def ZbS (A4:JaI) (A5:ZaI) (A6:Jbg) (A7:Jae) (A8:Zab) (A9:za0):Zj sg:=tab [(4,con [some Cd.tok] (jax A4)),(5,con [some Cd.tok] (zax A5)),(6,con [] (zcf A6)),(7,con [some Cd.tok] (Z5 A7)),(8,con [none] (zak A8)),(9,con [some Cd.tok,some Cd.tok] (zaQ A9))]
theorem zd9 (A4:JaI) (A5:ZaI) (A6:Jbg) (A7:Jae) (A8:Zab) (A9:za0) (h4:FP ro 4 (jax A4)) (h5:FP ro 5 (zax A5)) (h6:FP ro 6 (zcf A6)) (h7:FP ro 7 (Z5 A7)) (h8:FP ro 8 (zak A8)) (h9:FP ro 9 (zaQ A9)) (o0:Nat->Prop):CP ro o0 (ZbS A4 A5 A6 A7 A8 A9):=(Za (Jc h4) (Za (Jc h5) (Za (Jc h6) (Za (Jc h7) (Za (Jc h8) (Za (Jc h9) Jd)))))) o0
theorem jd9 (A4:JaI) (A5:ZaI) (A6:Jbg) (A7:Jae) (A8:Zab) (A9:za0) (a0:List Tok) (a1:Int) (k:W->Prop):fU syo (ZbS A4 A5 A6 A7 A8 A9) noL [none] f3 [.l Cd.tok a0,.i .i64 a1] k=jbS A4 A5 A6 A7 A8 A9 a0 a1 (λr0=>k (.b r0)):=by kernel_rfl
theorem zem (A4:JaI) (A5:ZaI) (A6:Jbg) (A7:Jae) (A8:Zab) (A9:za0) (h4:FP ro 4 (jax A4)) (h5:FP ro 5 (zax A5)) (h6:FP ro 6 (zcf A6)) (h7:FP ro 7 (Z5 A7)) (h8:FP ro 8 (zak A8)) (h9:FP ro 9 (zaQ A9)):FP ro 3 (Zay (jbS A4 A5 A6 A7 A8 A9)):=(fB f3 (rc:=[none]) (C:=ZbS A4 A5 A6 A7 A8 A9) (L:=noL) (λ_ _=>rfl) func3 (by kernel_rfl) (zd9 A4 A5 A6 A7 A8 A9 h4 h5 h6 h7 h8 h9) (Ji (l:=[]) (by kernel_rfl) je)).weak (by
 intro us k h;unfold Zay at h;split at h
 ·skip;rename_i a0 a1;rw [jd9 A4 A5 A6 A7 A8 A9 a0 a1 k];exact h
 ·exact h.elim)
