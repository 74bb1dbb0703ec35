/- Lemmas. -/
import Derived.Test.YtplpmeednhcjkaaGreatDoorTh
namespace Go.Proofs.YtplpmeednhcjkaaGreatDoor
open Go.Proofs.Tryz
open Go.Vm Go.Sx Go.RowKit
variable {ro:Nat}
def syo:Sy sg:=sy.grown λc=>match c with|Cd.u8=>true|_=>false
abbrev FP (ro:Nat) (f:FuncId) (pt:List W->(W->Prop)->Prop):Prop:=FnOK syo prog GT (ovD ro) ro f pt
abbrev CP (ro:Nat) (o0:Nat->Prop) (C:Zj sg):Prop:=jC syo prog GT (ovD ro) o0 ro C
theorem gr {f:FuncId} {pt:List W->(W->Prop)->Prop} (h:FO ro f pt):FP ro f pt:=FnOK.grown _ h
theorem jim:∀args st v st',Zh0 ro args st=some (v,st')->ovD ro 29 args st=some (v,st'):=λargs st v st' h=>by
 have e1:JcW ovL 29 args st=none:=rfl;have e2:ovN ro 29 args st=none:=rfl;have e3:ovV ro 29 args st=Zh0 ro args st:=rfl;simp only [ovD,ovA,e1,ov2,e2,ov1,e3,h]
abbrev J7:=Bt->Int->(Int->Prop)->Prop
def jaB (A:J7) (us:List W) (k:W->Prop):Prop:=match us with
 | [.s a0,.i .u8 a1]=>A a0 a1 (λr0=>k (.i .i64 r0))
 | _=>False
abbrev Zc:=Bt->Int->(Int->Prop)->Prop
def zj (A:Zc) (us:List W) (k:W->Prop):Prop:=match us with
 | [.s a0,.i .u8 a1]=>A a0 a1 (λr0=>k (.i .i64 r0))
 | _=>False
theorem JcB {A A2:Zc} (h:FP ro 37 (zj A)) (hA:∀a0 a1 K,A2 a0 a1 K->A a0 a1 K):FP ro 37 (zj A2):=h.weak (by intro us k h;unfold zj at h |-;split at h;exact hA _ _ _ h;exact h.elim)
def jbr (A74:J7) (a0:Bt) (a1:Int) (K:Int->Prop):Prop:=
 (A74 a0 a1 (λy1=>K y1))
def Zbr (A74:J7):Zj sg:=tab [(74,con [none,none] (jaB A74))]
theorem Zdq (A74:J7) (h74:FP ro 74 (jaB A74)) (o0:Nat->Prop):CP ro o0 (Zbr A74):=(Za (Jc h74) Jd) o0
theorem Jdq (A74:J7) (a0:Bt) (a1:Int) (k:W->Prop):fU syo (Zbr A74) noL [none] f37 [.s a0,.i .u8 a1] k=jbr A74 a0 a1 (λr0=>k (.i .i64 r0)):=by kernel_rfl
theorem ZdT (A74:J7) (h74:FP ro 74 (jaB A74)):FP ro 37 (zj (jbr A74)):=(fB f37 (rc:=[none]) (C:=Zbr A74) (L:=noL) (λ_ _=>rfl) func37 (by kernel_rfl) (Zdq A74 h74) (Ji (l:=[]) (by kernel_rfl) je)).weak (by intro us k h;unfold zj at h;split at h;rw [Jdq];exact h;exact h.elim)
abbrev Jaq:=Tok->(Tok->Prop)->Prop
def jag (A:Jaq) (us:List W) (k:W->Prop):Prop:=match us with
 | [.a [.i .u8 a0_0,.s a0_1,.i .i64 a0_2,.s a0_3,.b a0_4]]=>A (Tok.mk a0_0 a0_1 a0_2 a0_3 a0_4) (λr0=>k (.a [.i .u8 r0.kind,.s r0.text,.i .i64 r0.num,.s r0.unit,.b r0.flag]))
 | _=>False
theorem zdr {A A2:Jaq} (h:FP ro 36 (jag A)) (hA:∀a0 K,A2 a0 K->A a0 K):FP ro 36 (jag A2):=h.weak (by intro us k h;unfold jag at h |-;split at h;exact hA _ _ h;exact h.elim)
def JbL (a0:Tok) (K:Tok->Prop):Prop:=
 (((decide (a0.kind=1))=true->K (Tok.mk a0.kind a0.text 0 ([]:Bt) false))/\((decide (a0.kind=1))=false->(((decide (a0.kind=2))=true->K (Tok.mk a0.kind a0.text 0 ([]:Bt) false))/\((decide (a0.kind=2))=false->(((decide (a0.kind=3))=true->K (Tok.mk a0.kind a0.text 0 ([]:Bt) false))/\((decide (a0.kind=3))=false->(((decide (a0.kind=5))=true->K (Tok.mk a0.kind a0.text 0 ([]:Bt) false))/\((decide (a0.kind=5))=false->(((decide (a0.kind=7))=true->K (Tok.mk a0.kind a0.text 0 ([]:Bt) false))/\((decide (a0.kind=7))=false->(((decide (a0.kind=9))=true->K (Tok.mk a0.kind a0.text 0 ([]:Bt) false))/\((decide (a0.kind=9))=false->(((decide (a0.kind=4))=true->K (Tok.mk a0.kind a0.text 0 ([]:Bt) a0.flag))/\((decide (a0.kind=4))=false->(((decide (a0.kind=10))=true->K (Tok.mk a0.kind ([]:Bt) a0.num ([]:Bt) a0.flag))/\((decide (a0.kind=10))=false->(((decide (a0.kind=11))=true->K (Tok.mk a0.kind ([]:Bt) a0.num ([]:Bt) false))/\((decide (a0.kind=11))=false->(((decide (a0.kind=12))=true->K (Tok.mk a0.kind ([]:Bt) a0.num a0.unit a0.flag))/\((decide (a0.kind=12))=false->K (Tok.mk a0.kind ([]:Bt) 0 ([]:Bt) false)))))))))))))))))))))
def zcC:Zj sg:=tab []
theorem zeM (o0:Nat->Prop):CP ro o0 (zcC):=Jd o0
theorem jeM (a0:Tok) (k:W->Prop):fU syo (zcC) noL [none] f36 [.a [.i .u8 a0.kind,.s a0.text,.i .i64 a0.num,.s a0.unit,.b a0.flag]] k=JbL a0 (λr0=>k (.a [.i .u8 r0.kind,.s r0.text,.i .i64 r0.num,.s r0.unit,.b r0.flag])):=by kernel_rfl
theorem jfh:FP ro 36 (jag (JbL)):=(fB f36 (rc:=[none]) (C:=zcC) (L:=noL) (λ_ _=>rfl) func36 (by kernel_rfl) (zeM) (Ji (l:=[]) (by kernel_rfl) je)).weak (by
 intro us k h;unfold jag at h;split at h
 ·skip;rename_i a0_0 a0_1 a0_2 a0_3 a0_4;rw [jeM (Tok.mk a0_0 a0_1 a0_2 a0_3 a0_4) k];exact h
 ·exact h.elim)
abbrev J3:=Bt->(Bool->Prop)->Prop
def jU (A:J3) (us:List W) (k:W->Prop):Prop:=match us with
 | [.s a0]=>A a0 (λr0=>k (.b r0))
 | _=>False
theorem ZcO {A A2:J3} (h:FP ro 38 (jU A)) (hA:∀a0 K,A2 a0 K->A a0 K):FP ro 38 (jU A2):=h.weak (by intro us k h;unfold jU at h |-;split at h;exact hA _ _ h;exact h.elim)
def zbM (a0:Bt) (K:Bool->Prop):Prop:=
 K (!(a0==([]:Bt)))
def jbM:Zj sg:=tab []
theorem JdT (o0:Nat->Prop):CP ro o0 (jbM):=Jd o0
theorem zdU (a0:Bt) (k:W->Prop):fU syo (jbM) noL [none] f38 [.s a0] k=zbM a0 (λr0=>k (.b r0)):=by kernel_rfl
theorem zei:FP ro 38 (jU (zbM)):=(fB f38 (rc:=[none]) (C:=jbM) (L:=noL) (λ_ _=>rfl) func38 (by kernel_rfl) (JdT) (Ji (l:=[]) (by kernel_rfl) je)).weak (by intro us k h;unfold jU at h;split at h;rw [zdU];exact h;exact h.elim)
abbrev Zm:=Bt->(Bool->Prop)->Prop
def zr (A:Zm) (us:List W) (k:W->Prop):Prop:=match us with
 | [.s a0]=>A a0 (λr0=>k (.b r0))
 | _=>False
theorem jcC {A A2:Zm} (h:FP ro 75 (zr A)) (hA:∀a0 K,A2 a0 K->A a0 K):FP ro 75 (zr A2):=h.weak (by intro us k h;unfold zr at h |-;split at h;exact hA _ _ h;exact h.elim)
def Jbr (A78:zc) (a0:Bt) (K:Bool->Prop):Prop:=
 (((!(a0==([]:Bt)))=true->((0<=(0:Int)/\0<(a0.length:Int))/\(A78 ((a0.getD 0 0).toNat:Int) (λy1=>K y1))))/\((!(a0==([]:Bt)))=false->K false))
def zbs (A78:zc):Zj sg:=tab [(78,con [none] (Zf A78))]
theorem jdr (A78:zc) (h78:FP ro 78 (Zf A78)) (o0:Nat->Prop):CP ro o0 (zbs A78):=(Za (Jc h78) Jd) o0
theorem Zdr (A78:zc) (a0:Bt) (k:W->Prop):fU syo (zbs A78) noL [none] f75 [.s a0] k=Jbr A78 a0 (λr0=>k (.b r0)):=by kernel_rfl
theorem jdU (A78:zc) (h78:FP ro 78 (Zf A78)):FP ro 75 (zr (Jbr A78)):=(fB f75 (rc:=[none]) (C:=zbs A78) (L:=noL) (λ_ _=>rfl) func75 (by kernel_rfl) (jdr A78 h78) (Ji (l:=[]) (by kernel_rfl) je)).weak (by intro us k h;unfold zr at h;split at h;rw [Zdr];exact h;exact h.elim)
abbrev Jk:=Bt->(Bool->Prop)->Prop
def Jm (A:Jk) (us:List W) (k:W->Prop):Prop:=match us with
 | [.s a0]=>A a0 (λr0=>k (.b r0))
 | _=>False
theorem zbA {A A2:Jk} (h:FP ro 76 (Jm A)) (hA:∀a0 K,A2 a0 K->A a0 K):FP ro 76 (Jm A2):=h.weak (by intro us k h;unfold Jm at h |-;split at h;exact hA _ _ h;exact h.elim)
def Zag (A49:zC) (A75:Zm) (a0:Bt) (K:Bool->Prop):Prop:=
 (A49 a0 ([45]:Bt) (λy1=>((y1=true->((0<=(1:Int)/\1<=(a0.length:Int))/\(A75 (a0.drop 1) (λy2=>K y2))))/\(y1=false->K false))))
def jaD (A49:zC) (A75:Zm):Zj sg:=tab [(49,con [none,none] (Z1 A49)),(75,con [none] (zr A75))]
theorem jb7 (A49:zC) (A75:Zm) (h49:FP ro 49 (Z1 A49)) (h75:FP ro 75 (zr A75)) (o0:Nat->Prop):CP ro o0 (jaD A49 A75):=(Za (Jc h49) (Za (Jc h75) Jd)) o0
theorem Zb7 (A49:zC) (A75:Zm) (a0:Bt) (k:W->Prop):fU syo (jaD A49 A75) noL [none] f76 [.s a0] k=Zag A49 A75 a0 (λr0=>k (.b r0)):=by kernel_rfl
theorem jcp (A49:zC) (A75:Zm) (h49:FP ro 49 (Z1 A49)) (h75:FP ro 75 (zr A75)):FP ro 76 (Jm (Zag A49 A75)):=(fB f76 (rc:=[none]) (C:=jaD A49 A75) (L:=noL) (λ_ _=>rfl) func76 (by kernel_rfl) (jb7 A49 A75 h49 h75) (Ji (l:=[]) (by kernel_rfl) je)).weak (by intro us k h;unfold Jm at h;split at h;rw [Zb7];exact h;exact h.elim)
abbrev zk:=Bt->(Int->Prop)->Prop
def zo (A:zk) (us:List W) (k:W->Prop):Prop:=match us with
 | [.s a0]=>A a0 (λr0=>k (.i .i64 r0))
 | _=>False
theorem Zcp {A A2:zk} (h:FP ro 39 (zo A)) (hA:∀a0 K,A2 a0 K->A a0 K):FP ro 39 (zo A2):=h.weak (by intro us k h;unfold zo at h |-;split at h;exact hA _ _ h;exact h.elim)
def Jbc (A75:Zm) (A76:Jk) (a0:Bt) (K:Int->Prop):Prop:=
 (((a0==([45]:Bt))=false->(A75 a0 (λy1=>((y1=true->K 0)/\(y1=false->(A76 a0 (λy2=>((y2=true->K 1)/\(y2=false->K (-1:Int))))))))))/\((a0==([45]:Bt))=true->K 0))
def zbd (A75:Zm) (A76:Jk):Zj sg:=tab [(75,con [none] (zr A75)),(76,con [none] (Jm A76))]
theorem Jc6 (A75:Zm) (A76:Jk) (h75:FP ro 75 (zr A75)) (h76:FP ro 76 (Jm A76)) (o0:Nat->Prop):CP ro o0 (zbd A75 A76):=(Za (Jc h75) (Za (Jc h76) Jd)) o0
theorem zc7 (A75:Zm) (A76:Jk) (a0:Bt) (k:W->Prop):fU syo (zbd A75 A76) noL [none] f39 [.s a0] k=Jbc A75 A76 a0 (λr0=>k (.i .i64 r0)):=by kernel_rfl
theorem Jdr (A75:Zm) (A76:Jk) (h75:FP ro 75 (zr A75)) (h76:FP ro 76 (Jm A76)):FP ro 39 (zo (Jbc A75 A76)):=(fB f39 (rc:=[none]) (C:=zbd A75 A76) (L:=noL) (λ_ _=>rfl) func39 (by kernel_rfl) (Jc6 A75 A76 h75 h76) (Ji (l:=[]) (by kernel_rfl) je)).weak (by intro us k h;unfold zo at h;split at h;rw [zc7];exact h;exact h.elim)
abbrev jV:=Bt->(Bool->Prop)->Prop
def ZN (A:jV) (us:List W) (k:W->Prop):Prop:=match us with
 | [.s a0]=>A a0 (λr0=>k (.b r0))
 | _=>False
theorem ZcC {A A2:jV} (h:FP ro 40 (ZN A)) (hA:∀a0 K,A2 a0 K->A a0 K):FP ro 40 (ZN A2):=h.weak (by intro us k h;unfold ZN at h |-;split at h;exact hA _ _ h;exact h.elim)
def zaY (A51:Zb) (A53:Jw) (A77:jm) (A78:zc) (A37:Zc) (a0:Bt) (K:Bool->Prop):Prop:=
 (((decide ((a0.length:Int)≠(1:Int)))=true->K false)/\((decide ((a0.length:Int)≠(1:Int)))=false->((0<=(0:Int)/\0<(a0.length:Int))/\(A51 ((a0.getD 0 0).toNat:Int) (λy1=>(((!y1)=true->(A53 ((a0.getD 0 0).toNat:Int) (λy2=>(((!y2)=true->(A77 ((a0.getD 0 0).toNat:Int) (λy3=>(((!y3)=true->(A78 ((a0.getD 0 0).toNat:Int) (λy4=>(((!y4)=true->(A37 ([12,13,58,59,44,91,93,40,41,123,125]:Bt) ((a0.getD 0 0).toNat:Int) (λy5=>K (decide (y5<0)))))/\((!y4)=false->K false)))))/\((!y3)=false->K false)))))/\((!y2)=false->K false)))))/\((!y1)=false->K false)))))))
def jbs (A51:Zb) (A53:Jw) (A77:jm) (A78:zc) (A37:Zc):Zj sg:=tab [(51,con [none] (zi A51)),(53,con [none] (ZD A53)),(77,con [none] (Jq A77)),(78,con [none] (Zf A78)),(37,con [none,none] (zj A37))]
theorem zds (A51:Zb) (A53:Jw) (A77:jm) (A78:zc) (A37:Zc) (h51:FP ro 51 (zi A51)) (h53:FP ro 53 (ZD A53)) (h77:FP ro 77 (Jq A77)) (h78:FP ro 78 (Zf A78)) (h37:FP ro 37 (zj A37)) (o0:Nat->Prop):CP ro o0 (jbs A51 A53 A77 A78 A37):=(Za (Jc h51) (Za (Jc h53) (Za (Jc h77) (Za (Jc h78) (Za (Jc h37) Jd))))) o0
theorem jds (A51:Zb) (A53:Jw) (A77:jm) (A78:zc) (A37:Zc) (a0:Bt) (k:W->Prop):fU syo (jbs A51 A53 A77 A78 A37) noL [none] f40 [.s a0] k=zaY A51 A53 A77 A78 A37 a0 (λr0=>k (.b r0)):=by kernel_rfl
theorem ZdU (A51:Zb) (A53:Jw) (A77:jm) (A78:zc) (A37:Zc) (h51:FP ro 51 (zi A51)) (h53:FP ro 53 (ZD A53)) (h77:FP ro 77 (Jq A77)) (h78:FP ro 78 (Zf A78)) (h37:FP ro 37 (zj A37)):FP ro 40 (ZN (zaY A51 A53 A77 A78 A37)):=(fB f40 (rc:=[none]) (C:=jbs A51 A53 A77 A78 A37) (L:=noL) (λ_ _=>rfl) func40 (by kernel_rfl) (zds A51 A53 A77 A78 A37 h51 h53 h77 h78 h37) (Ji (l:=[]) (by kernel_rfl) je)).weak (by intro us k h;unfold ZN at h;split at h;rw [jds];exact h;exact h.elim)
abbrev Ju:=Int->(Bool->Prop)->Prop
def ZA (A:Ju) (us:List W) (k:W->Prop):Prop:=match us with
 | [.i .i64 a0]=>A a0 (λr0=>k (.b r0))
 | _=>False
theorem JcC {A A2:Ju} (h:FP ro 79 (ZA A)) (hA:∀a0 K,A2 a0 K->A a0 K):FP ro 79 (ZA A2):=h.weak (by intro us k h;unfold ZA at h |-;split at h;exact hA _ _ h;exact h.elim)
def Zbs (a0:Int) (K:Bool->Prop):Prop:=
 ((1000:Int)≠0/\K (decide ((a0.tmod 1000)=0)))
def Jbs:Zj sg:=tab []
theorem Zds (o0:Nat->Prop):CP ro o0 (Jbs):=Jd o0
theorem Jds (a0:Int) (k:W->Prop):fU syo (Jbs) noL [none] f79 [.i .i64 a0] k=Zbs a0 (λr0=>k (.b r0)):=by kernel_rfl
theorem JdU:FP ro 79 (ZA (Zbs)):=(fB f79 (rc:=[none]) (C:=Jbs) (L:=noL) (λ_ _=>rfl) func79 (by kernel_rfl) (Zds) (Ji (l:=[]) (by kernel_rfl) je)).weak (by intro us k h;unfold ZA at h;split at h;rw [Jds];exact h;exact h.elim)
abbrev JO:=Tok->(Bool->Prop)->Prop
def zI (A:JO) (us:List W) (k:W->Prop):Prop:=match us with
 | [.a [.i .u8 a0_0,.s a0_1,.i .i64 a0_2,.s a0_3,.b a0_4]]=>A (Tok.mk a0_0 a0_1 a0_2 a0_3 a0_4) (λr0=>k (.b r0))
 | _=>False
theorem Jcp {A A2:JO} (h:FP ro 41 (zI A)) (hA:∀a0 K,A2 a0 K->A a0 K):FP ro 41 (zI A2):=h.weak (by intro us k h;unfold zI at h |-;split at h;exact hA _ _ h;exact h.elim)
def zaM (A79:Ju) (a0:Tok) (K:Bool->Prop):Prop:=
 (((decide (a0.num<(-1000000000000:Int)))=false->(((decide (1000000000000<a0.num))=true->K false)/\((decide (1000000000000<a0.num))=false->(((!a0.flag)=false->(A79 a0.num (λy1=>K y1)))/\((!a0.flag)=true->K true)))))/\((decide (a0.num<(-1000000000000:Int)))=true->K false))
def jbd (A79:Ju):Zj sg:=tab [(79,con [none] (ZA A79))]
theorem jc7 (A79:Ju) (h79:FP ro 79 (ZA A79)) (o0:Nat->Prop):CP ro o0 (jbd A79):=(Za (Jc h79) Jd) o0
theorem Zc7 (A79:Ju) (a0:Tok) (k:W->Prop):fU syo (jbd A79) noL [none] f41 [.a [.i .u8 a0.kind,.s a0.text,.i .i64 a0.num,.s a0.unit,.b a0.flag]] k=zaM A79 a0 (λr0=>k (.b r0)):=by kernel_rfl
theorem zdt (A79:Ju) (h79:FP ro 79 (ZA A79)):FP ro 41 (zI (zaM A79)):=(fB f41 (rc:=[none]) (C:=jbd A79) (L:=noL) (λ_ _=>rfl) func41 (by kernel_rfl) (jc7 A79 h79) (Ji (l:=[]) (by kernel_rfl) je)).weak (by
 intro us k h;unfold zI at h;split at h
 ·skip;rename_i a0_0 a0_1 a0_2 a0_3 a0_4;rw [Zc7 A79 (Tok.mk a0_0 a0_1 a0_2 a0_3 a0_4) k];exact h
 ·exact h.elim)
abbrev zh:=Tok->(Bool->Prop)->Prop
def jo (A:zh) (us:List W) (k:W->Prop):Prop:=match us with
 | [.a [.i .u8 a0_0,.s a0_1,.i .i64 a0_2,.s a0_3,.b a0_4]]=>A (Tok.mk a0_0 a0_1 a0_2 a0_3 a0_4) (λr0=>k (.b r0))
 | _=>False
theorem jbA {A A2:zh} (h:FP ro 23 (jo A)) (hA:∀a0 K,A2 a0 K->A a0 K):FP ro 23 (jo A2):=h.weak (by intro us k h;unfold jo at h |-;split at h;exact hA _ _ h;exact h.elim)
def Jag (A36:Jaq) (A37:Zc) (A38:J3) (A39:zk) (A40:jV) (A41:JO) (a0:Tok) (K:Bool->Prop):Prop:=
 (A36 (Tok.mk a0.kind a0.text a0.num a0.unit a0.flag) (λy1=>(((!(decide (a0.kind=y1.kind)&&((a0.text==y1.text)&&(decide (a0.num=y1.num)&&((a0.unit==y1.unit)&&((a0.flag==y1.flag)&&true))))))=false->(A37 a0.text 0 (λy2=>(((decide (0<=y2))=false->(A37 a0.unit 0 (λy3=>(((decide (0<=y3))=true->K false)/\((decide (0<=y3))=false->(((decide (a0.kind=1))=true->(A38 a0.text (λy4=>K y4)))/\((decide (a0.kind=1))=false->(((decide (a0.kind=2))=true->(A38 a0.text (λy5=>K y5)))/\((decide (a0.kind=2))=false->(((decide (a0.kind=3))=true->(A38 a0.text (λy6=>K y6)))/\((decide (a0.kind=3))=false->(((decide (a0.kind=4))=true->(A38 a0.text (λy7=>((y7=true->((a0.flag=false->(A39 a0.text (λy8=>K (decide (y8≠(-1:Int))))))/\(a0.flag=true->K true)))/\(y7=false->K false)))))/\((decide (a0.kind=4))=false->(((decide (a0.kind=9))=true->(A40 a0.text (λy9=>K y9)))/\((decide (a0.kind=9))=false->(((decide (a0.kind=10))=true->(A41 (Tok.mk a0.kind a0.text a0.num a0.unit a0.flag) (λy10=>K y10)))/\((decide (a0.kind=10))=false->(((decide (a0.kind=11))=true->(A41 (Tok.mk a0.kind a0.text a0.num a0.unit a0.flag) (λy11=>K y11)))/\((decide (a0.kind=11))=false->(((decide (a0.kind=12))=true->(A41 (Tok.mk a0.kind a0.text a0.num a0.unit a0.flag) (λy12=>((y12=true->(A38 a0.unit (λy13=>K y13)))/\(y12=false->K false)))))/\((decide (a0.kind=12))=false->(((decide (a0.kind=6))=true->K false)/\((decide (a0.kind=6))=false->(((decide (a0.kind=8))=true->K false)/\((decide (a0.kind=8))=false->(((decide (1<=a0.kind))=true->K (decide (a0.kind<=24)))/\((decide (1<=a0.kind))=false->K false)))))))))))))))))))))))))))/\((decide (0<=y2))=true->K false)))))/\((!(decide (a0.kind=y1.kind)&&((a0.text==y1.text)&&(decide (a0.num=y1.num)&&((a0.unit==y1.unit)&&((a0.flag==y1.flag)&&true))))))=true->K false))))
def ZaD (A36:Jaq) (A37:Zc) (A38:J3) (A39:zk) (A40:jV) (A41:JO):Zj sg:=tab [(36,con [none] (jag A36)),(37,con [none,none] (zj A37)),(38,con [none] (jU A38)),(39,con [none] (zo A39)),(40,con [none] (ZN A40)),(41,con [none] (zI A41))]
theorem Jb7 (A36:Jaq) (A37:Zc) (A38:J3) (A39:zk) (A40:jV) (A41:JO) (h36:FP ro 36 (jag A36)) (h37:FP ro 37 (zj A37)) (h38:FP ro 38 (jU A38)) (h39:FP ro 39 (zo A39)) (h40:FP ro 40 (ZN A40)) (h41:FP ro 41 (zI A41)) (o0:Nat->Prop):CP ro o0 (ZaD A36 A37 A38 A39 A40 A41):=(Za (Jc h36) (Za (Jc h37) (Za (Jc h38) (Za (Jc h39) (Za (Jc h40) (Za (Jc h41) Jd)))))) o0
theorem zb8 (A36:Jaq) (A37:Zc) (A38:J3) (A39:zk) (A40:jV) (A41:JO) (a0:Tok) (k:W->Prop):fU syo (ZaD A36 A37 A38 A39 A40 A41) noL [none] f23 [.a [.i .u8 a0.kind,.s a0.text,.i .i64 a0.num,.s a0.unit,.b a0.flag]] k=Jag A36 A37 A38 A39 A40 A41 a0 (λr0=>k (.b r0)):=by kernel_rfl
theorem zcq (A36:Jaq) (A37:Zc) (A38:J3) (A39:zk) (A40:jV) (A41:JO) (h36:FP ro 36 (jag A36)) (h37:FP ro 37 (zj A37)) (h38:FP ro 38 (jU A38)) (h39:FP ro 39 (zo A39)) (h40:FP ro 40 (ZN A40)) (h41:FP ro 41 (zI A41)):FP ro 23 (jo (Jag A36 A37 A38 A39 A40 A41)):=(fB f23 (rc:=[none]) (C:=ZaD A36 A37 A38 A39 A40 A41) (L:=noL) (λ_ _=>rfl) func23 (by kernel_rfl) (Jb7 A36 A37 A38 A39 A40 A41 h36 h37 h38 h39 h40 h41) (Ji (l:=[]) (by kernel_rfl) je)).weak (by
 intro us k h;unfold jo at h;split at h
 ·skip;rename_i a0_0 a0_1 a0_2 a0_3 a0_4;rw [zb8 A36 A37 A38 A39 A40 A41 (Tok.mk a0_0 a0_1 a0_2 a0_3 a0_4) k];exact h
 ·exact h.elim)
abbrev jb:=Tok->(Bool->Prop)->Prop
def Jg (A:jb) (us:List W) (k:W->Prop):Prop:=match us with
 | [.a [.i .u8 a0_0,.s a0_1,.i .i64 a0_2,.s a0_3,.b a0_4]]=>A (Tok.mk a0_0 a0_1 a0_2 a0_3 a0_4) (λr0=>k (.b r0))
 | _=>False
theorem ZbM {A A2:jb} (h:FP ro 25 (Jg A)) (hA:∀a0 K,A2 a0 K->A a0 K):FP ro 25 (Jg A2):=h.weak (by intro us k h;unfold Jg at h |-;split at h;exact hA _ _ h;exact h.elim)
def jaM (a0:Tok) (K:Bool->Prop):Prop:=
 (((decide (a0.kind=9))=true->K (a0.text==([92]:Bt)))/\((decide (a0.kind=9))=false->K false))
def ZaM:Zj sg:=tab []
theorem jcq (o0:Nat->Prop):CP ro o0 (ZaM):=Jd o0
theorem Zcq (a0:Tok) (k:W->Prop):fU syo (ZaM) noL [none] f25 [.a [.i .u8 a0.kind,.s a0.text,.i .i64 a0.num,.s a0.unit,.b a0.flag]] k=jaM a0 (λr0=>k (.b r0)):=by kernel_rfl
theorem zcD:FP ro 25 (Jg (jaM)):=(fB f25 (rc:=[none]) (C:=ZaM) (L:=noL) (λ_ _=>rfl) func25 (by kernel_rfl) (jcq) (Ji (l:=[]) (by kernel_rfl) je)).weak (by
 intro us k h;unfold Jg at h;split at h
 ·skip;rename_i a0_0 a0_1 a0_2 a0_3 a0_4;rw [Zcq (Tok.mk a0_0 a0_1 a0_2 a0_3 a0_4) k];exact h
 ·exact h.elim)
abbrev jd:=Tok->(Bool->Prop)->Prop
def Zi (A:jd) (us:List W) (k:W->Prop):Prop:=match us with
 | [.a [.i .u8 a0_0,.s a0_1,.i .i64 a0_2,.s a0_3,.b a0_4]]=>A (Tok.mk a0_0 a0_1 a0_2 a0_3 a0_4) (λr0=>k (.b r0))
 | _=>False
theorem zbt {A A2:jd} (h:FP ro 26 (Zi A)) (hA:∀a0 K,A2 a0 K->A a0 K):FP ro 26 (Zi A2):=h.weak (by intro us k h;unfold Zi at h |-;split at h;exact hA _ _ h;exact h.elim)
def Z9 (A43:Z2) (a0:Tok) (K:Bool->Prop):Prop:=
 (((decide (a0.kind=2))=true->(A43 a0.text ([117,114,108]:Bt) (λy1=>K y1)))/\((decide (a0.kind=2))=false->K false))
def jaz (A43:Z2):Zj sg:=tab [(43,con [none,none] (Zaj A43))]
theorem zbW (A43:Z2) (h43:FP ro 43 (Zaj A43)) (o0:Nat->Prop):CP ro o0 (jaz A43):=(Za (Jc h43) Jd) o0
theorem jbW (A43:Z2) (a0:Tok) (k:W->Prop):fU syo (jaz A43) noL [none] f26 [.a [.i .u8 a0.kind,.s a0.text,.i .i64 a0.num,.s a0.unit,.b a0.flag]] k=Z9 A43 a0 (λr0=>k (.b r0)):=by kernel_rfl
theorem jb8 (A43:Z2) (h43:FP ro 43 (Zaj A43)):FP ro 26 (Zi (Z9 A43)):=(fB f26 (rc:=[none]) (C:=jaz A43) (L:=noL) (λ_ _=>rfl) func26 (by kernel_rfl) (zbW A43 h43) (Ji (l:=[]) (by kernel_rfl) je)).weak (by
 intro us k h;unfold Zi at h;split at h
 ·skip;rename_i a0_0 a0_1 a0_2 a0_3 a0_4;rw [jbW A43 (Tok.mk a0_0 a0_1 a0_2 a0_3 a0_4) k];exact h
 ·exact h.elim)
abbrev JaZ:=List Tok->Int->(Bool->Prop)->Prop
def JaM (A:JaZ) (us:List W) (k:W->Prop):Prop:=match us with
 | [.l Cd.tok a0,.i .u8 a1]=>A a0 a1 (λr0=>k (.b r0))
 | _=>False
theorem jei {A A2:JaZ} (h:FP ro 42 (JaM A)) (hA:∀a0 a1 K,A2 a0 a1 K->A a0 a1 K):FP ro 42 (JaM A2):=h.weak (by intro us k h;unfold JaM at h |-;split at h;exact hA _ _ _ h;exact h.elim)
def zdV (a0:List Tok) (a1:Int) (K:Bool->Prop):Prop:=
 (((decide (0<(a0.length:Int)))=true->((0<=(0:Int)/\0<(a0.length:Int))/\K (decide (((a0.getD 0 (Ze Cd.tok)).kind)=a1))))/\((decide (0<(a0.length:Int)))=false->K false))
def jdV:Zj sg:=tab []
theorem zfK (o0:Nat->Prop):CP ro o0 (jdV):=Jd o0
theorem jfK (a0:List Tok) (a1:Int) (k:W->Prop):fU syo (jdV) noL [none] f42 [.l Cd.tok a0,.i .u8 a1] k=zdV a0 a1 (λr0=>k (.b r0)):=by kernel_rfl
theorem Jgw:FP ro 42 (JaM (zdV)):=(fB f42 (rc:=[none]) (C:=jdV) (L:=noL) (λ_ _=>rfl) func42 (by kernel_rfl) (zfK) (Ji (l:=[]) (by kernel_rfl) je)).weak (by
 intro us k h;unfold JaM at h;split at h
 ·skip;rename_i a0 a1;rw [jfK a0 a1 k];exact h
 ·exact h.elim)
abbrev jf:=Tok->List Tok->(Bool->Prop)->Prop
def jk (A:jf) (us:List W) (k:W->Prop):Prop:=match us with
 | [.a [.i .u8 a0_0,.s a0_1,.i .i64 a0_2,.s a0_3,.b a0_4],.l Cd.tok a1]=>A (Tok.mk a0_0 a0_1 a0_2 a0_3 a0_4) a1 (λr0=>k (.b r0))
 | _=>False
theorem Zbd {A A2:jf} (h:FP ro 24 (jk A)) (hA:∀a0 a1 K,A2 a0 a1 K->A a0 a1 K):FP ro 24 (jk A2):=h.weak (by intro us k h;unfold jk at h |-;split at h;exact hA _ _ _ h;exact h.elim)
def ZX (A25:jb) (A42:JaZ) (A26:jd) (a0:Tok) (a1:List Tok) (K:Bool->Prop):Prop:=
 (A25 (Tok.mk a0.kind a0.text a0.num a0.unit a0.flag) (λy1=>((y1=true->(A42 a1 13 (λy2=>K y2)))/\(y1=false->(A26 (Tok.mk a0.kind a0.text a0.num a0.unit a0.flag) (λy3=>((y3=true->(A42 a1 13 (λy4=>((y4=true->((0<=(1:Int)/\1<=(a1.length:Int))/\(A42 (a1.drop 1) 5 (λy5=>K y5))))/\(y4=false->(A42 a1 5 (λy6=>K y6)))))))/\(y3=false->K true))))))))
def zal (A25:jb) (A42:JaZ) (A26:jd):Zj sg:=tab [(25,con [none] (Jg A25)),(42,con [some Cd.tok,none] (JaM A42)),(26,con [none] (Zi A26))]
theorem ZbA (A25:jb) (A42:JaZ) (A26:jd) (h25:FP ro 25 (Jg A25)) (h42:FP ro 42 (JaM A42)) (h26:FP ro 26 (Zi A26)) (o0:Nat->Prop):CP ro o0 (zal A25 A42 A26):=(Za (Jc h25) (Za (Jc h42) (Za (Jc h26) Jd))) o0
theorem JbA (A25:jb) (A42:JaZ) (A26:jd) (a0:Tok) (a1:List Tok) (k:W->Prop):fU syo (zal A25 A42 A26) noL [none] f24 [.a [.i .u8 a0.kind,.s a0.text,.i .i64 a0.num,.s a0.unit,.b a0.flag],.l Cd.tok a1] k=ZX A25 A42 A26 a0 a1 (λr0=>k (.b r0)):=by kernel_rfl
theorem JbM (A25:jb) (A42:JaZ) (A26:jd) (h25:FP ro 25 (Jg A25)) (h42:FP ro 42 (JaM A42)) (h26:FP ro 26 (Zi A26)):FP ro 24 (jk (ZX A25 A42 A26)):=(fB f24 (rc:=[none]) (C:=zal A25 A42 A26) (L:=noL) (λ_ _=>rfl) func24 (by kernel_rfl) (ZbA A25 A42 A26 h25 h42 h26) (Ji (l:=[]) (by kernel_rfl) je)).weak (by
 intro us k h;unfold jk at h;split at h
 ·skip;rename_i a0_0 a0_1 a0_2 a0_3 a0_4 a1;rw [JbA A25 A42 A26 (Tok.mk a0_0 a0_1 a0_2 a0_3 a0_4) a1 k];exact h
 ·exact h.elim)
abbrev Jv:=List Tok->(Int->Prop)->Prop
def zP (A:Jv) (us:List W) (k:W->Prop):Prop:=match us with
 | [.l Cd.tok a0]=>A a0 (λr0=>k (.i .i64 r0))
 | _=>False
theorem Jc7 {A A2:Jv} (h:FP ro 14 (zP A)) (hA:∀a0 K,A2 a0 K->A a0 K):FP ro 14 (zP A2):=h.weak (by intro us k h;unfold zP at h |-;split at h;exact hA _ _ h;exact h.elim)
def zaN (A23:zh) (A24:jf):Nat->List Tok->List Tok->Int->Int->(Unit->Prop)->(Int->Prop)->Prop
 | 0,_,_,_,_,_,_=>False
 | n+1,x0,x8,x9,x10,Ke,Kr=>(((decide (x10<x9))=true->((0<=x10/\x10<(x8.length:Int))/\(A23 (Tok.mk ((x8.getD x10.toNat (Ze Cd.tok)).kind) ((x8.getD x10.toNat (Ze Cd.tok)).text) ((x8.getD x10.toNat (Ze Cd.tok)).num) ((x8.getD x10.toNat (Ze Cd.tok)).unit) ((x8.getD x10.toNat (Ze Cd.tok)).flag)) (λy1=>(((!y1)=false->(I64 (x10+1)/\((0<=(x10+1)/\(x10+1)<=(x0.length:Int))/\(A24 (Tok.mk ((x8.getD x10.toNat (Ze Cd.tok)).kind) ((x8.getD x10.toNat (Ze Cd.tok)).text) ((x8.getD x10.toNat (Ze Cd.tok)).num) ((x8.getD x10.toNat (Ze Cd.tok)).unit) ((x8.getD x10.toNat (Ze Cd.tok)).flag)) (x0.drop (x10+1).toNat) (λy2=>(((!y2)=true->Kr 8)/\((!y2)=false->(I64 (x10+1)/\zaN A23 A24 n x0 x8 x9 (x10+1) Ke Kr))))))))/\((!y1)=true->Kr 8))))))/\((decide (x10<x9))=false->Ke ()))
def Zb8 (A23:zh) (A24:jf) (a0:List Tok) (K:Int->Prop):Prop:=
 (((decide (1500<(a0.length:Int)))=true->K 4)/\((decide (1500<(a0.length:Int)))=false->(∃m,zaN A23 A24 m a0 a0 (a0.length:Int) 0 (λ_=>K 0) (λy1=>K y1))))
def jbm (A23:zh) (A24:jf):Zj sg:=tab [(23,con [none] (jo A23)),(24,con [none,some Cd.tok] (jk A24))]
theorem jct (A23:zh) (A24:jf) (h23:FP ro 23 (jo A23)) (h24:FP ro 24 (jk A24)) (o0:Nat->Prop):CP ro o0 (jbm A23 A24):=(Za (Jc h23) (Za (Jc h24) Jd)) o0
abbrev Jbd:Type:=((List (sg.Den Cd.tok))×(List (sg.Den Cd.tok))×Int×Int×Unit)
abbrev Yb_glue_Check_4:Type:=Unit
def ls_glue_Check_4:LS syo Jbd Yb_glue_Check_4:=⟨[],zd 0 (jQ syo Cd.tok) (zd 8 (jQ syo Cd.tok) (zd 9 (Je syo .i64) (zd 10 (Je syo .i64) (jF syo)))),ZF syo,0,[]⟩
def le_glue_Check_4:LS syo Unit Unit:=⟨[],jF syo,ZF syo,0,[]⟩
def lr_glue_Check_4:LS syo (Int×Unit) Unit:=⟨[],zd 2 (Je syo .i64) (jF syo),ZF syo,0,[]⟩
def jaN (A23:zh) (A24:jf) (n:Nat) (x:Jbd×Yb_glue_Check_4) (K:Ex->Z sg->Prop):Prop:=zaN A23 A24 n x.1.1 x.1.2.1 x.1.2.2.1 x.1.2.2.2.1 (λ_=>K (.exit 0) (le_glue_Check_4.put ((),()))) (λy0=>K .ret (lr_glue_Check_4.put ((y0,()),())))
def Zei (A23:zh) (A24:jf) (z:Z sg) (K:Ex->Z sg->Prop):Prop:=ls_glue_Check_4.get z (λx=>∃n,jaN A23 A24 n x K)
def zaH (A23:zh) (A24:jf):ZY sg:=Jcx [(4,Zei A23 A24)]
theorem ZdV (A23:zh) (A24:jf) (n:Nat) (x:Jbd×Yb_glue_Check_4) (K:Ex->Z sg->Prop):jt (ls_glue_Check_4.put x) (λz=>sC syo prog GT (jbm A23 A24) (zaH A23 A24) f14.ntmps (zb (za f14) 0) z (rnd ls_glue_Check_4 (czT 0 le_glue_Check_4 lr_glue_Check_4) (λx=>jaN A23 A24 n x K) K))=jaN A23 A24 (n+1) x K:=by kernel_rfl
theorem JdV (A23:zh) (A24:jf) (z:Z sg) (K:Ex->Z sg->Prop):(zaH A23 A24) (zb (za f14) 0) z K=ls_glue_Check_4.get z (λx=>∃n,jaN A23 A24 n x K):=by kernel_rfl
theorem zdW (A23:zh) (A24:jf) (h23:FP ro 23 (jo A23)) (h24:FP ro 24 (jk A24)):∀(o0:Nat->Prop) (B:Bs sg),B.E.length<=0->∀z K,(zaH A23 A24) (zb (za f14) 0) z K->Sx.Sem syo prog GT (ovD ro) o0 ro f14.ntmps B (.loop (zb (za f14) 0)) z K:=
 zG (jct A23 A24 h23 h24) (Ji (l:=[]) (by kernel_rfl) je) ls_glue_Check_4 (by decide) (czT 0 le_glue_Check_4 lr_glue_Check_4) (λ_ _ hB=>zY 0 le_glue_Check_4 lr_glue_Check_4 (Yb hB (by decide)) (Yb hB (by decide))) (λ_ _ h=>h) (ZdV A23 A24) (JdV A23 A24)
theorem ZeM (A23:zh) (A24:jf) (h23:FP ro 23 (jo A23)) (h24:FP ro 24 (jk A24)):zci syo prog GT (ovD ro) ro (zaH A23 A24) 0 f14.ntmps (za f14):=Ji (l:=[(zb (za f14) 0)]) (by kernel_rfl) (JF (zdW A23 A24 h23 h24) je)
theorem Jei (A23:zh) (A24:jf) (a0:List Tok) (k:W->Prop):fU syo (jbm A23 A24) (zaH A23 A24) [none] f14 [.l Cd.tok a0] k=Zb8 A23 A24 a0 (λr0=>k (.i .i64 r0)):=by kernel_rfl
theorem JeM (A23:zh) (A24:jf) (h23:FP ro 23 (jo A23)) (h24:FP ro 24 (jk A24)):FP ro 14 (zP (Zb8 A23 A24)):=(fB f14 (rc:=[none]) (C:=jbm A23 A24) (L:=(zaH A23 A24)) (λ_ _=>rfl) func14 (by kernel_rfl) (jct A23 A24 h23 h24) (ZeM A23 A24 h23 h24)).weak (by
 intro us k h;unfold zP at h;split at h
 ·skip;rename_i a0;rw [Jei A23 A24 a0 k];exact h
 ·exact h.elim)
abbrev jn:=List Tok->Int->(Int->Prop)->Prop
def jz (A:jn) (us:List W) (k:W->Prop):Prop:=match us with
 | [.l Cd.tok a0,.i .i64 a1]=>A a0 a1 (λr0=>k (.i .i64 r0))
 | _=>False
theorem Jcq {A A2:jn} (h:FP ro 15 (jz A)) (hA:∀a0 a1 K,A2 a0 a1 K->A a0 a1 K):FP ro 15 (jz A2):=h.weak (by intro us k h;unfold jz at h |-;split at h;exact hA _ _ _ h;exact h.elim)
def zan (A25:jb) (A26:jd):Nat->List Tok->Int->(Int->Prop)->Prop
 | 0,_,_,_=>False
 | n+1,x0,x1,Ke=>((0<=x1/\x1<(x0.length:Int))/\(((decide (((x0.getD x1.toNat (Ze Cd.tok)).kind)≠(5:Int)))=true->(I64 (x1+1)/\zan A25 A26 n x0 (x1+1) Ke))/\((decide (((x0.getD x1.toNat (Ze Cd.tok)).kind)≠(5:Int)))=false->Ke x1)))
def zbe (A25:jb) (A26:jd) (a0:List Tok) (a1:Int) (K:Int->Prop):Prop:=
 ((0<=a1/\a1<(a0.length:Int))/\(A25 (Tok.mk ((a0.getD a1.toNat (Ze Cd.tok)).kind) ((a0.getD a1.toNat (Ze Cd.tok)).text) ((a0.getD a1.toNat (Ze Cd.tok)).num) ((a0.getD a1.toNat (Ze Cd.tok)).unit) ((a0.getD a1.toNat (Ze Cd.tok)).flag)) (λy1=>((y1=true->(I64 (a1+2)/\K (a1+2)))/\(y1=false->((0<=a1/\a1<(a0.length:Int))/\(A26 (Tok.mk ((a0.getD a1.toNat (Ze Cd.tok)).kind) ((a0.getD a1.toNat (Ze Cd.tok)).text) ((a0.getD a1.toNat (Ze Cd.tok)).num) ((a0.getD a1.toNat (Ze Cd.tok)).unit) ((a0.getD a1.toNat (Ze Cd.tok)).flag)) (λy2=>((y2=true->(∃m,zan A25 A26 m a0 a1 (λy3=>(I64 (y3+1)/\K (y3+1)))))/\(y2=false->(I64 (a1+1)/\K (a1+1))))))))))))
def ZaN (A25:jb) (A26:jd):Zj sg:=tab [(25,con [none] (Jg A25)),(26,con [none] (Zi A26))]
theorem zbB (A25:jb) (A26:jd) (h25:FP ro 25 (Jg A25)) (h26:FP ro 26 (Zi A26)) (o0:Nat->Prop):CP ro o0 (ZaN A25 A26):=(Za (Jc h25) (Za (Jc h26) Jd)) o0
abbrev JaN:Type:=((List (sg.Den Cd.tok))×Int×Unit)
abbrev Yb_glue_pieceEnd_4:Type:=Unit
def ls_glue_pieceEnd_4:LS syo JaN Yb_glue_pieceEnd_4:=⟨[],zd 0 (jQ syo Cd.tok) (zd 1 (Je syo .i64) (jF syo)),ZF syo,0,[]⟩
def le_glue_pieceEnd_4:LS syo (Int×Unit) Unit:=⟨[],zd 1 (Je syo .i64) (jF syo),ZF syo,0,[]⟩
def zaO:LS syo Unit Unit:=⟨[],jF syo,ZF syo,0,[]⟩
def jan (A25:jb) (A26:jd) (n:Nat) (x:JaN×Yb_glue_pieceEnd_4) (K:Ex->Z sg->Prop):Prop:=zan A25 A26 n x.1.1 x.1.2.1 (λy0=>K (.exit 1) (le_glue_pieceEnd_4.put ((y0,()),())))
def zc8 (A25:jb) (A26:jd) (z:Z sg) (K:Ex->Z sg->Prop):Prop:=ls_glue_pieceEnd_4.get z (λx=>∃n,jan A25 A26 n x K)
def Jab (A25:jb) (A26:jd):ZY sg:=Jcx [(4,zc8 A25 A26)]
theorem JcO (A25:jb) (A26:jd) (n:Nat) (x:JaN×Yb_glue_pieceEnd_4) (K:Ex->Z sg->Prop):jt (ls_glue_pieceEnd_4.put x) (λz=>sC syo prog GT (ZaN A25 A26) (Jab A25 A26) f15.ntmps (zb (za f15) 0) z (rnd ls_glue_pieceEnd_4 (czT 1 le_glue_pieceEnd_4 zaO) (λx=>jan A25 A26 n x K) K))=jan A25 A26 (n+1) x K:=by kernel_rfl
theorem zcP (A25:jb) (A26:jd) (z:Z sg) (K:Ex->Z sg->Prop):(Jab A25 A26) (zb (za f15) 0) z K=ls_glue_pieceEnd_4.get z (λx=>∃n,jan A25 A26 n x K):=by kernel_rfl
theorem jcP (A25:jb) (A26:jd) (h25:FP ro 25 (Jg A25)) (h26:FP ro 26 (Zi A26)):∀(o0:Nat->Prop) (B:Bs sg),B.E.length<=0->∀z K,(Jab A25 A26) (zb (za f15) 0) z K->Sx.Sem syo prog GT (ovD ro) o0 ro f15.ntmps B (.loop (zb (za f15) 0)) z K:=
 zG (zbB A25 A26 h25 h26) (Ji (l:=[]) (by kernel_rfl) je) ls_glue_pieceEnd_4 (by decide) (czT 1 le_glue_pieceEnd_4 zaO) (λ_ _ hB=>zY 1 le_glue_pieceEnd_4 zaO (Yb hB (by decide)) (Yb hB (by decide))) (λ_ _ h=>h) (JcO A25 A26) (zcP A25 A26)
theorem jdt (A25:jb) (A26:jd) (h25:FP ro 25 (Jg A25)) (h26:FP ro 26 (Zi A26)):zci syo prog GT (ovD ro) ro (Jab A25 A26) 0 f15.ntmps (za f15):=Ji (l:=[(zb (za f15) 0)]) (by kernel_rfl) (JF (jcP A25 A26 h25 h26) je)
theorem jc8 (A25:jb) (A26:jd) (a0:List Tok) (a1:Int) (k:W->Prop):fU syo (ZaN A25 A26) (Jab A25 A26) [none] f15 [.l Cd.tok a0,.i .i64 a1] k=zbe A25 A26 a0 a1 (λr0=>k (.i .i64 r0)):=by kernel_rfl
theorem Zdt (A25:jb) (A26:jd) (h25:FP ro 25 (Jg A25)) (h26:FP ro 26 (Zi A26)):FP ro 15 (jz (zbe A25 A26)):=(fB f15 (rc:=[none]) (C:=ZaN A25 A26) (L:=(Jab A25 A26)) (λ_ _=>rfl) func15 (by kernel_rfl) (zbB A25 A26 h25 h26) (jdt A25 A26 h25 h26)).weak (by
 intro us k h;unfold jz at h;split at h
 ·skip;rename_i a0 a1;rw [jc8 A25 A26 a0 a1 k];exact h
 ·exact h.elim)
abbrev ZV:=List Tok->List Tok->(Bool->Prop)->Prop
def JN (A:ZV) (us:List W) (k:W->Prop):Prop:=match us with
 | [.l Cd.tok a0,.l Cd.tok a1]=>A a0 a1 (λr0=>k (.b r0))
 | _=>False
theorem jcD {A A2:ZV} (h:FP ro 45 (JN A)) (hA:∀a0 a1 K,A2 a0 a1 K->A a0 a1 K):FP ro 45 (JN A2):=h.weak (by intro us k h;unfold JN at h |-;split at h;exact hA _ _ _ h;exact h.elim)
def Zav:Nat->List Tok->List Tok->Int->Int->(Unit->Prop)->(Bool->Prop)->Prop
 | 0,_,_,_,_,_,_=>False
 | n+1,x0,x1,x12,x13,Ke,Kr=>(((decide (x13<x12))=true->((0<=x13/\x13<(x0.length:Int))/\((0<=x13/\x13<(x1.length:Int))/\(((!(decide ((x0.getD x13.toNat (Ze Cd.tok)).kind=(x1.getD x13.toNat (Ze Cd.tok)).kind)&&((((x0.getD x13.toNat (Ze Cd.tok)).text)==((x1.getD x13.toNat (Ze Cd.tok)).text))&&(decide ((x0.getD x13.toNat (Ze Cd.tok)).num=(x1.getD x13.toNat (Ze Cd.tok)).num)&&((((x0.getD x13.toNat (Ze Cd.tok)).unit)==((x1.getD x13.toNat (Ze Cd.tok)).unit))&&((((x0.getD x13.toNat (Ze Cd.tok)).flag)==((x1.getD x13.toNat (Ze Cd.tok)).flag))&&true))))))=true->Kr false)/\((!(decide ((x0.getD x13.toNat (Ze Cd.tok)).kind=(x1.getD x13.toNat (Ze Cd.tok)).kind)&&((((x0.getD x13.toNat (Ze Cd.tok)).text)==((x1.getD x13.toNat (Ze Cd.tok)).text))&&(decide ((x0.getD x13.toNat (Ze Cd.tok)).num=(x1.getD x13.toNat (Ze Cd.tok)).num)&&((((x0.getD x13.toNat (Ze Cd.tok)).unit)==((x1.getD x13.toNat (Ze Cd.tok)).unit))&&((((x0.getD x13.toNat (Ze Cd.tok)).flag)==((x1.getD x13.toNat (Ze Cd.tok)).flag))&&true))))))=false->(I64 (x13+1)/\Zav n x0 x1 x12 (x13+1) Ke Kr))))))/\((decide (x13<x12))=false->Ke ()))
def jbt (a0:List Tok) (a1:List Tok) (K:Bool->Prop):Prop:=
 (((decide ((a0.length:Int)≠(a1.length:Int)))=true->K false)/\((decide ((a0.length:Int)≠(a1.length:Int)))=false->(∃m,Zav m a0 a1 (a0.length:Int) 0 (λ_=>K true) (λy1=>K y1))))
def jaY:Zj sg:=tab []
theorem zbU (o0:Nat->Prop):CP ro o0 (jaY):=Jd o0
abbrev ZaV:Type:=((List (sg.Den Cd.tok))×(List (sg.Den Cd.tok))×Int×Int×Unit)
abbrev Yb_slices_Equal_4:Type:=Unit
def ls_slices_Equal_4:LS syo ZaV Yb_slices_Equal_4:=⟨[],zd 0 (jQ syo Cd.tok) (zd 1 (jQ syo Cd.tok) (zd 12 (Je syo .i64) (zd 13 (Je syo .i64) (jF syo)))),ZF syo,0,[]⟩
def le_slices_Equal_4:LS syo Unit Unit:=⟨[],jF syo,ZF syo,0,[]⟩
def lr_slices_Equal_4:LS syo (Bool×Unit) Unit:=⟨[],zd 4 (Jn syo) (jF syo),ZF syo,0,[]⟩
def Jav (n:Nat) (x:ZaV×Yb_slices_Equal_4) (K:Ex->Z sg->Prop):Prop:=Zav n x.1.1 x.1.2.1 x.1.2.2.1 x.1.2.2.2.1 (λ_=>K (.exit 0) (le_slices_Equal_4.put ((),()))) (λy0=>K .ret (lr_slices_Equal_4.put ((y0,()),())))
def Jdt (z:Z sg) (K:Ex->Z sg->Prop):Prop:=ls_slices_Equal_4.get z (λx=>∃n,Jav n x K)
def Zak:ZY sg:=Jcx [(4,Jdt)]
theorem Zc8 (n:Nat) (x:ZaV×Yb_slices_Equal_4) (K:Ex->Z sg->Prop):jt (ls_slices_Equal_4.put x) (λz=>sC syo prog GT (jaY) (Zak) f45.ntmps (zb (za f45) 0) z (rnd ls_slices_Equal_4 (czT 0 le_slices_Equal_4 lr_slices_Equal_4) (λx=>Jav n x K) K))=Jav (n+1) x K:=by kernel_rfl
theorem Jc8 (z:Z sg) (K:Ex->Z sg->Prop):(Zak) (zb (za f45) 0) z K=ls_slices_Equal_4.get z (λx=>∃n,Jav n x K):=by kernel_rfl
theorem zc9:∀(o0:Nat->Prop) (B:Bs sg),B.E.length<=0->∀z K,(Zak) (zb (za f45) 0) z K->Sx.Sem syo prog GT (ovD ro) o0 ro f45.ntmps B (.loop (zb (za f45) 0)) z K:=
 zG (zbU) (Ji (l:=[]) (by kernel_rfl) je) ls_slices_Equal_4 (by decide) (czT 0 le_slices_Equal_4 lr_slices_Equal_4) (λ_ _ hB=>zY 0 le_slices_Equal_4 lr_slices_Equal_4 (Yb hB (by decide)) (Yb hB (by decide))) (λ_ _ h=>h) (Zc8) (Jc8)
theorem jdW:zci syo prog GT (ovD ro) ro (Zak) 0 f45.ntmps (za f45):=Ji (l:=[(zb (za f45) 0)]) (by kernel_rfl) (JF (zc9) je)
theorem zdu (a0:List Tok) (a1:List Tok) (k:W->Prop):fU syo (jaY) (Zak) [none] f45 [.l Cd.tok a0,.l Cd.tok a1] k=jbt a0 a1 (λr0=>k (.b r0)):=by kernel_rfl
theorem ZdW:FP ro 45 (JN (jbt)):=(fB f45 (rc:=[none]) (C:=jaY) (L:=(Zak)) (λ_ _=>rfl) func45 (by kernel_rfl) (zbU) (jdW)).weak (by
 intro us k h;unfold JN at h;split at h
 ·skip;rename_i a0 a1;rw [zdu a0 a1 k];exact h
 ·exact h.elim)
abbrev Zk:=Bt->List Tok->(Bool->Prop)->Prop
def ju (A:Zk) (us:List W) (k:W->Prop):Prop:=match us with
 | [.s a0,.l Cd.tok a1]=>A a0 a1 (λr0=>k (.b r0))
 | _=>False
theorem zcr {A A2:Zk} (h:FP ro 28 (ju A)) (hA:∀a0 a1 K,A2 a0 a1 K->A a0 a1 K):FP ro 28 (ju A2):=h.weak (by intro us k h;unfold ju at h |-;split at h;exact hA _ _ _ h;exact h.elim)
def jbe (A8:Zab) (A45:ZV) (a0:Bt) (a1:List Tok) (K:Bool->Prop):Prop:=
 (A8 a0 (λy1 y2=>(((decide (y2=0))=true->(A45 y1 a1 (λy3=>K y3)))/\((decide (y2=0))=false->K false))))
def Zbe (A8:Zab) (A45:ZV):Zj sg:=tab [(8,con [none] (zak A8)),(45,con [some Cd.tok,some Cd.tok] (JN A45))]
theorem jc9 (A8:Zab) (A45:ZV) (h8:FP ro 8 (zak A8)) (h45:FP ro 45 (JN A45)) (o0:Nat->Prop):CP ro o0 (Zbe A8 A45):=(Za (Jc h8) (Za (Jc h45) Jd)) o0
theorem Zc9 (A8:Zab) (A45:ZV) (a0:Bt) (a1:List Tok) (k:W->Prop):fU syo (Zbe A8 A45) noL [none] f28 [.s a0,.l Cd.tok a1] k=jbe A8 A45 a0 a1 (λr0=>k (.b r0)):=by kernel_rfl
theorem jdu (A8:Zab) (A45:ZV) (h8:FP ro 8 (zak A8)) (h45:FP ro 45 (JN A45)):FP ro 28 (ju (jbe A8 A45)):=(fB f28 (rc:=[none]) (C:=Zbe A8 A45) (L:=noL) (λ_ _=>rfl) func28 (by kernel_rfl) (jc9 A8 A45 h8 h45) (Ji (l:=[]) (by kernel_rfl) je)).weak (by
 intro us k h;unfold ju at h;split at h
 ·skip;rename_i a0 a1;rw [Zc9 A8 A45 a0 a1 k];exact h
 ·exact h.elim)
