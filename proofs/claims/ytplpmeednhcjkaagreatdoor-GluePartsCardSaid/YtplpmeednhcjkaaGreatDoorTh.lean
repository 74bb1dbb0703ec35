/- Lemmas. -/
import Derived.Test.YtplpmeednhcjkaaGreatDoorTg
namespace Go.Proofs.YtplpmeednhcjkaaGreatDoor
open Go.Proofs.Tryz
open Go.Vm Go.Sx Go.RowKit
variable {ro:Nat}
abbrev zaV:=Bt->Bt->(Int->Prop)->Prop
def Jbz (A:zaV) (us:List W) (k:W->Prop):Prop:=match us with
 | [.s a0,.s a1]=>A a0 a1 (λr0=>k (.i .i64 r0))
 | _=>False
abbrev jJ:=Bt->Bt->(Int->Prop)->Prop
def jab (A:jJ) (us:List W) (k:W->Prop):Prop:=match us with
 | [.s a0,.s a1]=>A a0 a1 (λr0=>k (.i .i64 r0))
 | _=>False
theorem jdS {A A2:jJ} (h:FO ro 50 (jab A)) (hA:∀a0 a1 K,A2 a0 a1 K->A a0 a1 K):FO ro 50 (jab A2):=h.weak (by intro us k h;unfold jab at h |-;split at h;exact hA _ _ _ h;exact h.elim)
def jc5 (A89:zaV) (a0:Bt) (a1:Bt) (K:Int->Prop):Prop:=
 (A89 a0 a1 (λy1=>K y1))
def Zc5 (A89:zaV):Zj sg:=tab [(89,con [none,none] (Jbz A89))]
theorem jfg (A89:zaV) (h89:FO ro 89 (Jbz A89)) (o0:Nat->Prop):jC sy prog GT (ovD ro) o0 ro (Zc5 A89):=(Za (Jc h89) Jd) o0
theorem Zfg (A89:zaV) (a0:Bt) (a1:Bt) (k:W->Prop):fU sy (Zc5 A89) noL [none] f50 [.s a0,.s a1] k=jc5 A89 a0 a1 (λr0=>k (.i .i64 r0)):=by kernel_rfl
theorem zfJ (A89:zaV) (h89:FO ro 89 (Jbz A89)):FO ro 50 (jab (jc5 A89)):=(fB f50 (rc:=[none]) (C:=Zc5 A89) (L:=noL) (λ_ _=>rfl) func50 (by kernel_rfl) (jfg A89 h89) (Ji (l:=[]) (by kernel_rfl) je)).weak (by intro us k h;unfold jab at h;split at h;rw [Zfg];exact h;exact h.elim)
abbrev JaG:=Int->(Bool->Prop)->Prop
def zav (A:JaG) (us:List W) (k:W->Prop):Prop:=match us with
 | [.i .u8 a0]=>A a0 (λr0=>k (.b r0))
 | _=>False
theorem ZdS {A A2:JaG} (h:FO ro 61 (zav A)) (hA:∀a0 K,A2 a0 K->A a0 K):FO ro 61 (zav A2):=h.weak (by intro us k h;unfold zav at h |-;split at h;exact hA _ _ h;exact h.elim)
def Jc5 (a0:Int) (K:Bool->Prop):Prop:=
 (I64 a0/\(((decide (a0<126))=true->((0<=a0/\a0<126)/\(0+a0.toNat*1<marksL.length/\K (decide ((marksL.getD (0+a0.toNat*1) 0)≠(0:Int))))))/\((decide (a0<126))=false->K false)))
def zc6:Zj sg:=tab []
theorem Jfg (o0:Nat->Prop):jC sy prog GT (ovD ro) o0 ro (zc6):=Jd o0
theorem zfh (a0:Int) (k:W->Prop):fU sy (zc6) noL [none] f61 [.i .u8 a0] k=Jc5 a0 (λr0=>k (.b r0)):=by kernel_rfl
theorem jfJ:FO ro 61 (zav (Jc5)):=(fB f61 (rc:=[none]) (C:=zc6) (L:=noL) (λ_ _=>rfl) func61 (by kernel_rfl) (Jfg) (Ji (l:=[]) (by kernel_rfl) je)).weak (by intro us k h;unfold zav at h;split at h;rw [zfh];exact h;exact h.elim)
abbrev zV:=Bt->Int->(Tok->Int->Prop)->Prop
def jN (A:zV) (us:List W) (k:W->Prop):Prop:=match us with
 | [.s a0,.i .i64 a1]=>A a0 a1 (λr0 r1=>k (.t [.a [.i .u8 r0.kind,.s r0.text,.i .i64 r0.num,.s r0.unit,.b r0.flag],.i .i64 r1]))
 | _=>False
theorem jcA {A A2:zV} (h:FO ro 59 (jN A)) (hA:∀a0 a1 K,A2 a0 a1 K->A a0 a1 K):FO ro 59 (jN A2):=h.weak (by intro us k h;unfold jN at h |-;split at h;exact hA _ _ _ h;exact h.elim)
def Jbq (A96:Jb3) (A56:Zu) (A57:Zr) (A90:Ja) (a0:Bt) (a1:Int) (K:Tok->Int->Prop):Prop:=
 (A96 a0 a1 (λy1 y2 y3=>(A56 a0 y3 (λy4=>((y4=true->(A57 a0 y3 (λy5 y6=>K (Tok.mk 12 ([]:Bt) y1 y5 y2) y6)))/\(y4=false->(A90 a0 y3 (λy7=>(((decide (y7=37))=true->(I64 (y3+1)/\K (Tok.mk 11 ([]:Bt) y1 ([]:Bt) false) (y3+1)))/\((decide (y7=37))=false->K (Tok.mk 10 ([]:Bt) y1 ([]:Bt) y2) y3))))))))))
def zbr (A96:Jb3) (A56:Zu) (A57:Zr) (A90:Ja):Zj sg:=tab [(96,con [none,none] (JbI A96)),(56,con [none,none] (jA A56)),(57,con [none,none] (zz A57)),(90,con [none,none] (Zd A90))]
theorem zdq (A96:Jb3) (A56:Zu) (A57:Zr) (A90:Ja) (h96:FO ro 96 (JbI A96)) (h56:FO ro 56 (jA A56)) (h57:FO ro 57 (zz A57)) (h90:FO ro 90 (Zd A90)) (o0:Nat->Prop):jC sy prog GT (ovD ro) o0 ro (zbr A96 A56 A57 A90):=(Za (Jc h96) (Za (Jc h56) (Za (Jc h57) (Za (Jc h90) Jd)))) o0
theorem jdq (A96:Jb3) (A56:Zu) (A57:Zr) (A90:Ja) (a0:Bt) (a1:Int) (k:W->Prop):fU sy (zbr A96 A56 A57 A90) noL [none,none] f59 [.s a0,.i .i64 a1] k=Jbq A96 A56 A57 A90 a0 a1 (λr0 r1=>k (.t [.a [.i .u8 r0.kind,.s r0.text,.i .i64 r0.num,.s r0.unit,.b r0.flag],.i .i64 r1])):=by kernel_rfl
theorem JdS (A96:Jb3) (A56:Zu) (A57:Zr) (A90:Ja) (h96:FO ro 96 (JbI A96)) (h56:FO ro 56 (jA A56)) (h57:FO ro 57 (zz A57)) (h90:FO ro 90 (Zd A90)):FO ro 59 (jN (Jbq A96 A56 A57 A90)):=(fB f59 (rc:=[none,none]) (C:=zbr A96 A56 A57 A90) (L:=noL) (λ_ _=>rfl) func59 (by kernel_rfl) (zdq A96 A56 A57 A90 h96 h56 h57 h90) (Ji (l:=[]) (by kernel_rfl) je)).weak (by intro us k h;unfold jN at h;split at h;rw [jdq];exact h;exact h.elim)
abbrev Jh:=Bt->Int->(Int->Prop)->Prop
def jp (A:Jh) (us:List W) (k:W->Prop):Prop:=match us with
 | [.s a0,.i .i64 a1]=>A a0 a1 (λr0=>k (.i .i64 r0))
 | _=>False
theorem JbV {A A2:Jh} (h:FO ro 31 (jp A)) (hA:∀a0 a1 K,A2 a0 a1 K->A a0 a1 K):FO ro 31 (jp A2):=h.weak (by intro us k h;unfold jp at h |-;split at h;exact hA _ _ _ h;exact h.elim)
def J8 (A49:zC) (A50:jJ):Nat->Bt->Int->(Int->Prop)->(Int->Prop)->Prop
 | 0,_,_,_,_=>False
 | n+1,x0,x1,Ke,Kr=>((0<=x1/\x1<=(x0.length:Int))/\(A49 (x0.drop x1.toNat) ([47,42]:Bt) (λy1=>((y1=true->(I64 (x1+2)/\((0<=(x1+2)/\(x1+2)<=(x0.length:Int))/\(A50 (x0.drop (x1+2).toNat) ([42,47]:Bt) (λy2=>(((decide (y2<0))=true->Kr (x0.length:Int))/\((decide (y2<0))=false->(I64 (y2+2)/\(I64 ((x1+2)+(y2+2))/\J8 A49 A50 n x0 ((x1+2)+(y2+2)) Ke Kr)))))))))/\(y1=false->Ke x1)))))
def jaV (A49:zC) (A50:jJ) (a0:Bt) (a1:Int) (K:Int->Prop):Prop:=
 (∃m,J8 A49 A50 m a0 a1 (λy1=>K y1) (λy2=>K y2))
def jav (A49:zC) (A50:jJ):Zj sg:=tab [(49,con [none,none] (Z1 A49)),(50,con [none,none] (jab A50))]
theorem Zbc (A49:zC) (A50:jJ) (h49:FO ro 49 (Z1 A49)) (h50:FO ro 50 (jab A50)) (o0:Nat->Prop):jC sy prog GT (ovD ro) o0 ro (jav A49 A50):=(Za (Jc h49) (Za (Jc h50) Jd)) o0
abbrev zaz:Type:=((Bt)×Int×Unit)
abbrev Yb_behindCommentsA_1:Type:=Unit
def ls_behindCommentsA_1:LS sy zaz Yb_behindCommentsA_1:=⟨[],zd 0 (Jl sy) (zd 1 (Je sy .i64) (jF sy)),ZF sy,0,[]⟩
def le_behindCommentsA_1:LS sy (Int×Unit) Unit:=⟨[],zd 1 (Je sy .i64) (jF sy),ZF sy,0,[]⟩
def lr_behindCommentsA_1:LS sy (Int×Unit) Unit:=⟨[],zd 4 (Je sy .i64) (jF sy),ZF sy,0,[]⟩
def j9 (A49:zC) (A50:jJ) (n:Nat) (x:zaz×Yb_behindCommentsA_1) (K:Ex->Z sg->Prop):Prop:=J8 A49 A50 n x.1.1 x.1.2.1 (λy0=>K (.exit 0) (le_behindCommentsA_1.put ((y0,()),()))) (λy0=>K .ret (lr_behindCommentsA_1.put ((y0,()),())))
def ZcA (A49:zC) (A50:jJ) (z:Z sg) (K:Ex->Z sg->Prop):Prop:=ls_behindCommentsA_1.get z (λx=>∃n,j9 A49 A50 n x K)
def JV (A49:zC) (A50:jJ):ZY sg:=Jcx [(1,ZcA A49 A50)]
theorem Zco (A49:zC) (A50:jJ) (n:Nat) (x:zaz×Yb_behindCommentsA_1) (K:Ex->Z sg->Prop):jt (ls_behindCommentsA_1.put x) (λz=>sC sy prog GT (jav A49 A50) (JV A49 A50) f31.ntmps (zb (za f31) 0) z (rnd ls_behindCommentsA_1 (czT 0 le_behindCommentsA_1 lr_behindCommentsA_1) (λx=>j9 A49 A50 n x K) K))=j9 A49 A50 (n+1) x K:=by kernel_rfl
theorem Jco (A49:zC) (A50:jJ) (z:Z sg) (K:Ex->Z sg->Prop):(JV A49 A50) (zb (za f31) 0) z K=ls_behindCommentsA_1.get z (λx=>∃n,j9 A49 A50 n x K):=by kernel_rfl
theorem zcp (A49:zC) (A50:jJ) (h49:FO ro 49 (Z1 A49)) (h50:FO ro 50 (jab A50)):∀(o0:Nat->Prop) (B:Bs sg),B.E.length<=0->∀z K,(JV A49 A50) (zb (za f31) 0) z K->Sx.Sem sy prog GT (ovD ro) o0 ro f31.ntmps B (.loop (zb (za f31) 0)) z K:=
 zG (Zbc A49 A50 h49 h50) (Ji (l:=[]) (by kernel_rfl) je) ls_behindCommentsA_1 (by decide) (czT 0 le_behindCommentsA_1 lr_behindCommentsA_1) (λ_ _ hB=>zY 0 le_behindCommentsA_1 lr_behindCommentsA_1 (Yb hB (by decide)) (Yb hB (by decide))) (λ_ _ h=>h) (Zco A49 A50) (Jco A49 A50)
theorem JcN (A49:zC) (A50:jJ) (h49:FO ro 49 (Z1 A49)) (h50:FO ro 50 (jab A50)):zci sy prog GT (ovD ro) ro (JV A49 A50) 0 f31.ntmps (za f31):=Ji (l:=[(zb (za f31) 0)]) (by kernel_rfl) (JF (zcp A49 A50 h49 h50) je)
theorem JcA (A49:zC) (A50:jJ) (a0:Bt) (a1:Int) (k:W->Prop):fU sy (jav A49 A50) (JV A49 A50) [none] f31 [.s a0,.i .i64 a1] k=jaV A49 A50 a0 a1 (λr0=>k (.i .i64 r0)):=by kernel_rfl
theorem zcO (A49:zC) (A50:jJ) (h49:FO ro 49 (Z1 A49)) (h50:FO ro 50 (jab A50)):FO ro 31 (jp (jaV A49 A50)):=(fB f31 (rc:=[none]) (C:=jav A49 A50) (L:=(JV A49 A50)) (λ_ _=>rfl) func31 (by kernel_rfl) (Zbc A49 A50 h49 h50) (JcN A49 A50 h49 h50)).weak (by intro us k h;unfold jp at h;split at h;rw [JcA];exact h;exact h.elim)
abbrev Jr:=Bt->Int->(Tok->Int->Prop)->Prop
def JK (A:Jr) (us:List W) (k:W->Prop):Prop:=match us with
 | [.s a0,.i .i64 a1]=>A a0 a1 (λr0 r1=>k (.t [.a [.i .u8 r0.kind,.s r0.text,.i .i64 r0.num,.s r0.unit,.b r0.flag],.i .i64 r1]))
 | _=>False
theorem jc6 {A A2:Jr} (h:FO ro 32 (JK A)) (hA:∀a0 a1 K,A2 a0 a1 K->A a0 a1 K):FO ro 32 (JK A2):=h.weak (by intro us k h;unfold JK at h |-;split at h;exact hA _ _ _ h;exact h.elim)
def Zb6 (A51:Zb) (A52:ZO) (A53:Jw) (A54:jb6) (A55:j7) (A56:Zu) (A57:Zr) (A58:jb2) (A59:zV) (A49:zC) (A60:Z3) (A61:JaG) (a0:Bt) (a1:Int) (K:Tok->Int->Prop):Prop:=
 ((0<=a1/\a1<(a0.length:Int))/\(A51 ((a0.getD a1.toNat 0).toNat:Int) (λy1=>((y1=true->(A52 a0 a1 (λy2=>K (Tok.mk 13 ([]:Bt) 0 ([]:Bt) false) y2)))/\(y1=false->((0<=a1/\a1<(a0.length:Int))/\(A53 ((a0.getD a1.toNat 0).toNat:Int) (λy3=>((y3=true->(A54 a0 a1 (λy4 y5=>K (Tok.mk y4.kind y4.text y4.num y4.unit y4.flag) y5)))/\(y3=false->((0<=a1/\a1<(a0.length:Int))/\(((decide (((a0.getD a1.toNat 0).toNat:Int)=(35:Int)))=true->(I64 (a1+1)/\(A55 a0 (a1+1) (λy6=>((y6=true->(I64 (a1+1)/\(A56 a0 (a1+1) (λy7=>(I64 (a1+1)/\(A57 a0 (a1+1) (λy8 y9=>K (Tok.mk 4 y8 0 ([]:Bt) y7) y9)))))))/\(y6=false->(A58 a0 a1 (λy10=>((y10=true->(A59 a0 a1 (λy11 y12=>K (Tok.mk y11.kind y11.text y11.num y11.unit y11.flag) y12)))/\(y10=false->((0<=a1/\a1<=(a0.length:Int))/\(A49 (a0.drop a1.toNat) ([45,45,62]:Bt) (λy13=>((y13=true->(I64 (a1+3)/\K (Tok.mk 15 ([]:Bt) 0 ([]:Bt) false) (a1+3)))/\(y13=false->((0<=a1/\a1<=(a0.length:Int))/\(A49 (a0.drop a1.toNat) ([60,33,45,45]:Bt) (λy14=>((y14=true->(I64 (a1+4)/\K (Tok.mk 14 ([]:Bt) 0 ([]:Bt) false) (a1+4)))/\(y14=false->((0<=a1/\a1<(a0.length:Int))/\(((decide (((a0.getD a1.toNat 0).toNat:Int)=(64:Int)))=true->(I64 (a1+1)/\(A56 a0 (a1+1) (λy15=>((y15=true->(I64 (a1+1)/\(A57 a0 (a1+1) (λy16 y17=>K (Tok.mk 3 y16 0 ([]:Bt) false) y17))))/\(y15=false->(A56 a0 a1 (λy18=>((y18=true->(A60 a0 a1 (λy19 y20=>K (Tok.mk y19.kind y19.text y19.num y19.unit y19.flag) y20)))/\(y18=false->((0<=a1/\a1<(a0.length:Int))/\(A61 ((a0.getD a1.toNat 0).toNat:Int) (λy21=>((y21=true->((0<=a1/\a1<(a0.length:Int))/\((0<=((a0.getD a1.toNat 0).toNat:Int)/\((a0.getD a1.toNat 0).toNat:Int)<(126:Int))/\(0+((a0.getD a1.toNat 0).toNat:Int).toNat*1<marksL.length/\(I64 (a1+1)/\K (Tok.mk (marksL.getD (0+((a0.getD a1.toNat 0).toNat:Int).toNat*1) 0) ([]:Bt) 0 ([]:Bt) false) (a1+1))))))/\(y21=false->(I64 (a1+1)/\((0<=a1/\a1<=(a1+1)/\(a1+1)<=(a0.length:Int))/\(I64 (a1+1)/\K (Tok.mk 9 ((a0.drop a1.toNat).take ((a1+1).toNat-a1.toNat)) 0 ([]:Bt) false) (a1+1)))))))))))))))))))/\((decide (((a0.getD a1.toNat 0).toNat:Int)=(64:Int)))=false->(A56 a0 a1 (λy22=>((y22=true->(A60 a0 a1 (λy23 y24=>K (Tok.mk y23.kind y23.text y23.num y23.unit y23.flag) y24)))/\(y22=false->((0<=a1/\a1<(a0.length:Int))/\(A61 ((a0.getD a1.toNat 0).toNat:Int) (λy25=>((y25=true->((0<=a1/\a1<(a0.length:Int))/\((0<=((a0.getD a1.toNat 0).toNat:Int)/\((a0.getD a1.toNat 0).toNat:Int)<(126:Int))/\(0+((a0.getD a1.toNat 0).toNat:Int).toNat*1<marksL.length/\(I64 (a1+1)/\K (Tok.mk (marksL.getD (0+((a0.getD a1.toNat 0).toNat:Int).toNat*1) 0) ([]:Bt) 0 ([]:Bt) false) (a1+1))))))/\(y25=false->(I64 (a1+1)/\((0<=a1/\a1<=(a1+1)/\(a1+1)<=(a0.length:Int))/\(I64 (a1+1)/\K (Tok.mk 9 ((a0.drop a1.toNat).take ((a1+1).toNat-a1.toNat)) 0 ([]:Bt) false) (a1+1))))))))))))))))))))))))))))))))))))/\((decide (((a0.getD a1.toNat 0).toNat:Int)=(35:Int)))=false->(A58 a0 a1 (λy26=>((y26=true->(A59 a0 a1 (λy27 y28=>K (Tok.mk y27.kind y27.text y27.num y27.unit y27.flag) y28)))/\(y26=false->((0<=a1/\a1<=(a0.length:Int))/\(A49 (a0.drop a1.toNat) ([45,45,62]:Bt) (λy29=>((y29=true->(I64 (a1+3)/\K (Tok.mk 15 ([]:Bt) 0 ([]:Bt) false) (a1+3)))/\(y29=false->((0<=a1/\a1<=(a0.length:Int))/\(A49 (a0.drop a1.toNat) ([60,33,45,45]:Bt) (λy30=>((y30=true->(I64 (a1+4)/\K (Tok.mk 14 ([]:Bt) 0 ([]:Bt) false) (a1+4)))/\(y30=false->((0<=a1/\a1<(a0.length:Int))/\(((decide (((a0.getD a1.toNat 0).toNat:Int)=(64:Int)))=true->(I64 (a1+1)/\(A56 a0 (a1+1) (λy31=>((y31=true->(I64 (a1+1)/\(A57 a0 (a1+1) (λy32 y33=>K (Tok.mk 3 y32 0 ([]:Bt) false) y33))))/\(y31=false->(A56 a0 a1 (λy34=>((y34=true->(A60 a0 a1 (λy35 y36=>K (Tok.mk y35.kind y35.text y35.num y35.unit y35.flag) y36)))/\(y34=false->((0<=a1/\a1<(a0.length:Int))/\(A61 ((a0.getD a1.toNat 0).toNat:Int) (λy37=>((y37=true->((0<=a1/\a1<(a0.length:Int))/\((0<=((a0.getD a1.toNat 0).toNat:Int)/\((a0.getD a1.toNat 0).toNat:Int)<(126:Int))/\(0+((a0.getD a1.toNat 0).toNat:Int).toNat*1<marksL.length/\(I64 (a1+1)/\K (Tok.mk (marksL.getD (0+((a0.getD a1.toNat 0).toNat:Int).toNat*1) 0) ([]:Bt) 0 ([]:Bt) false) (a1+1))))))/\(y37=false->(I64 (a1+1)/\((0<=a1/\a1<=(a1+1)/\(a1+1)<=(a0.length:Int))/\(I64 (a1+1)/\K (Tok.mk 9 ((a0.drop a1.toNat).take ((a1+1).toNat-a1.toNat)) 0 ([]:Bt) false) (a1+1)))))))))))))))))))/\((decide (((a0.getD a1.toNat 0).toNat:Int)=(64:Int)))=false->(A56 a0 a1 (λy38=>((y38=true->(A60 a0 a1 (λy39 y40=>K (Tok.mk y39.kind y39.text y39.num y39.unit y39.flag) y40)))/\(y38=false->((0<=a1/\a1<(a0.length:Int))/\(A61 ((a0.getD a1.toNat 0).toNat:Int) (λy41=>((y41=true->((0<=a1/\a1<(a0.length:Int))/\((0<=((a0.getD a1.toNat 0).toNat:Int)/\((a0.getD a1.toNat 0).toNat:Int)<(126:Int))/\(0+((a0.getD a1.toNat 0).toNat:Int).toNat*1<marksL.length/\(I64 (a1+1)/\K (Tok.mk (marksL.getD (0+((a0.getD a1.toNat 0).toNat:Int).toNat*1) 0) ([]:Bt) 0 ([]:Bt) false) (a1+1))))))/\(y41=false->(I64 (a1+1)/\((0<=a1/\a1<=(a1+1)/\(a1+1)<=(a0.length:Int))/\(I64 (a1+1)/\K (Tok.mk 9 ((a0.drop a1.toNat).take ((a1+1).toNat-a1.toNat)) 0 ([]:Bt) false) (a1+1)))))))))))))))))))))))))))))))))))))))))))
def Jb6 (A51:Zb) (A52:ZO) (A53:Jw) (A54:jb6) (A55:j7) (A56:Zu) (A57:Zr) (A58:jb2) (A59:zV) (A49:zC) (A60:Z3) (A61:JaG):Zj sg:=tab [(51,con [none] (zi A51)),(52,con [none,none] (Zap A52)),(53,con [none] (ZD A53)),(54,con [none,none] (JbK A54)),(55,con [none,none] (ZaL A55)),(56,con [none,none] (jA A56)),(57,con [none,none] (zz A57)),(58,con [none,none] (JbG A58)),(59,con [none,none] (jN A59)),(49,con [none,none] (Z1 A49)),(60,con [none,none] (zU A60)),(61,con [none] (zav A61))]
theorem jeh (A51:Zb) (A52:ZO) (A53:Jw) (A54:jb6) (A55:j7) (A56:Zu) (A57:Zr) (A58:jb2) (A59:zV) (A49:zC) (A60:Z3) (A61:JaG) (h51:FO ro 51 (zi A51)) (h52:FO ro 52 (Zap A52)) (h53:FO ro 53 (ZD A53)) (h54:FO ro 54 (JbK A54)) (h55:FO ro 55 (ZaL A55)) (h56:FO ro 56 (jA A56)) (h57:FO ro 57 (zz A57)) (h58:FO ro 58 (JbG A58)) (h59:FO ro 59 (jN A59)) (h49:FO ro 49 (Z1 A49)) (h60:FO ro 60 (zU A60)) (h61:FO ro 61 (zav A61)) (o0:Nat->Prop):jC sy prog GT (ovD ro) o0 ro (Jb6 A51 A52 A53 A54 A55 A56 A57 A58 A59 A49 A60 A61):=(Za (Jc h51) (Za (Jc h52) (Za (Jc h53) (Za (Jc h54) (Za (Jc h55) (Za (Jc h56) (Za (Jc h57) (Za (Jc h58) (Za (Jc h59) (Za (Jc h49) (Za (Jc h60) (Za (Jc h61) Jd)))))))))))) o0
theorem Zeh (A51:Zb) (A52:ZO) (A53:Jw) (A54:jb6) (A55:j7) (A56:Zu) (A57:Zr) (A58:jb2) (A59:zV) (A49:zC) (A60:Z3) (A61:JaG) (a0:Bt) (a1:Int) (k:W->Prop):fU sy (Jb6 A51 A52 A53 A54 A55 A56 A57 A58 A59 A49 A60 A61) noL [none,none] f32 [.s a0,.i .i64 a1] k=Zb6 A51 A52 A53 A54 A55 A56 A57 A58 A59 A49 A60 A61 a0 a1 (λr0 r1=>k (.t [.a [.i .u8 r0.kind,.s r0.text,.i .i64 r0.num,.s r0.unit,.b r0.flag],.i .i64 r1])):=by kernel_rfl
theorem JeL (A51:Zb) (A52:ZO) (A53:Jw) (A54:jb6) (A55:j7) (A56:Zu) (A57:Zr) (A58:jb2) (A59:zV) (A49:zC) (A60:Z3) (A61:JaG) (h51:FO ro 51 (zi A51)) (h52:FO ro 52 (Zap A52)) (h53:FO ro 53 (ZD A53)) (h54:FO ro 54 (JbK A54)) (h55:FO ro 55 (ZaL A55)) (h56:FO ro 56 (jA A56)) (h57:FO ro 57 (zz A57)) (h58:FO ro 58 (JbG A58)) (h59:FO ro 59 (jN A59)) (h49:FO ro 49 (Z1 A49)) (h60:FO ro 60 (zU A60)) (h61:FO ro 61 (zav A61)):FO ro 32 (JK (Zb6 A51 A52 A53 A54 A55 A56 A57 A58 A59 A49 A60 A61)):=(fB f32 (rc:=[none,none]) (C:=Jb6 A51 A52 A53 A54 A55 A56 A57 A58 A59 A49 A60 A61) (L:=noL) (λ_ _=>rfl) func32 (by kernel_rfl) (jeh A51 A52 A53 A54 A55 A56 A57 A58 A59 A49 A60 A61 h51 h52 h53 h54 h55 h56 h57 h58 h59 h49 h60 h61) (Ji (l:=[]) (by kernel_rfl) je)).weak (by intro us k h;unfold JK at h;split at h;rw [Zeh];exact h;exact h.elim)
def ZbL:Zj sg:=tab []
theorem zb7 (o0:Nat->Prop):jC sy prog GT (ovD ro) o0 ro (ZbL):=Jd o0
def Jaf (A30:jL) (A31:Jh) (A32:Jr):Nat->Bt->Int->Int->List Tok->(List Tok->Prop)->(Int->List Tok->Prop)->Prop
 | 0,_,_,_,_,_,_=>False
 | n+1,x5,x7,x8,b1,Ke,Kr=>(((decide (x8<(x5.length:Int)))=true->(((decide (x7=1500))=true->Kr 4 b1)/\((decide (x7=1500))=false->(A32 x5 x8 (λy1 y2=>((b1.length+[(Tok.mk y1.kind y1.text y1.num y1.unit y1.flag)].length)*56<=1099511627776/\(I64 (x7+1)/\(A31 x5 y2 (λy3=>Jaf A30 A31 A32 n x5 (x7+1) y3 (b1++[(Tok.mk y1.kind y1.text y1.num y1.unit y1.flag)]) Ke Kr)))))))))/\((decide (x8<(x5.length:Int)))=false->Ke b1))
def za2 (A30:jL) (A31:Jh) (A32:Jr):Zj sg:=tab [(30,con [none] (jaj A30)),(31,con [none,none] (jp A31)),(32,con [none,none] (JK A32)),(18,inl sy prog GT (ZbL) noL 1000 f18.ntmps (za f18) f18.results.toList)]
theorem zbm (A30:jL) (A31:Jh) (A32:Jr) (h30:FO ro 30 (jaj A30)) (h31:FO ro 31 (jp A31)) (h32:FO ro 32 (JK A32)) (o0:Nat->Prop):jC sy prog GT (ovD ro) o0 ro (za2 A30 A31 A32):=(Za (Jc h30) (Za (Jc h31) (Za (Jc h32) (Za (zdi (f:=18) (fn:=f18) (λ_ _=>rfl) func18 (by kernel_rfl) rfl rfl (zb7) (Ji (l:=[]) (by kernel_rfl) je)) Jd)))) o0
abbrev zaD:Type:=((Unit×Unit)×(Bt)×Int×Int×Unit)
abbrev Yb_k_eachToken_tA_6:Type:=((Unit×Unit)×List (sg.Den Cd.tok)×Unit)
def ls_k_eachToken_tA_6:LS sy zaD Yb_k_eachToken_tA_6:=⟨[.cell 0 0 1 Cd.tok],zd 1 (vFn 18 (ja (ZK sy (.p 0 0)) (Zq sy))) (zd 5 (Jl sy) (zd 7 (Je sy .i64) (zd 8 (Je sy .i64) (jF sy)))),Jb 0 (ja (ZK sy (.o 1)) (Zq sy)) (ZQ 1 Cd.tok (ZF sy)),2,[1]⟩
def le_k_eachToken_tA_6:LS sy Unit ((Unit×Unit)×List (sg.Den Cd.tok)×Unit):=⟨[],jF sy,Jb 0 (ja (ZK sy (.o 1)) (Zq sy)) (ZQ 1 Cd.tok (ZF sy)),2,[1]⟩
def lr_k_eachToken_tA_6:LS sy (Int×Unit) ((Unit×Unit)×List (sg.Den Cd.tok)×Unit):=⟨[],zd 4 (Je sy .i64) (jF sy),Jb 0 (ja (ZK sy (.o 1)) (Zq sy)) (ZQ 1 Cd.tok (ZF sy)),2,[1]⟩
def zag (A30:jL) (A31:Jh) (A32:Jr) (n:Nat) (x:zaD×Yb_k_eachToken_tA_6) (K:Ex->Z sg->Prop):Prop:=Jaf A30 A31 A32 n x.1.2.1 x.1.2.2.1 x.1.2.2.2.1 x.2.2.1 (λy0=>K (.exit 0) (le_k_eachToken_tA_6.put ((),(((),()),y0,())))) (λy0 y1=>K .ret (lr_k_eachToken_tA_6.put ((y0,()),(((),()),y1,()))))
def jcO (A30:jL) (A31:Jh) (A32:Jr) (z:Z sg) (K:Ex->Z sg->Prop):Prop:=ls_k_eachToken_tA_6.get z (λx=>∃n,zag A30 A31 A32 n x K)
def Jaj (A30:jL) (A31:Jh) (A32:Jr):ZY sg:=Jcx [(6,jcO A30 A31 A32)]
theorem zcB (A30:jL) (A31:Jh) (A32:Jr) (n:Nat) (x:zaD×Yb_k_eachToken_tA_6) (K:Ex->Z sg->Prop):jt (ls_k_eachToken_tA_6.put x) (λz=>sC sy prog GT (za2 A30 A31 A32) (Jaj A30 A31 A32) f17.ntmps (zb (za f17) 0) z (rnd ls_k_eachToken_tA_6 (czT 0 le_k_eachToken_tA_6 lr_k_eachToken_tA_6) (λx=>zag A30 A31 A32 n x K) K))=zag A30 A31 A32 (n+1) x K:=by kernel_rfl
theorem jcB (A30:jL) (A31:Jh) (A32:Jr) (z:Z sg) (K:Ex->Z sg->Prop):(Jaj A30 A31 A32) (zb (za f17) 0) z K=ls_k_eachToken_tA_6.get z (λx=>∃n,zag A30 A31 A32 n x K):=by kernel_rfl
theorem ZcB (A30:jL) (A31:Jh) (A32:Jr) (h30:FO ro 30 (jaj A30)) (h31:FO ro 31 (jp A31)) (h32:FO ro 32 (JK A32)):∀(o0:Nat->Prop) (B:Bs sg),B.E.length<=1->∀z K,(Jaj A30 A31 A32) (zb (za f17) 0) z K->Sx.Sem sy prog GT (ovD ro) o0 ro f17.ntmps B (.loop (zb (za f17) 0)) z K:=
 zG (zbm A30 A31 A32 h30 h31 h32) (Ji (l:=[]) (by kernel_rfl) je) ls_k_eachToken_tA_6 (by decide) (czT 0 le_k_eachToken_tA_6 lr_k_eachToken_tA_6) (λ_ _ hB=>zY 0 le_k_eachToken_tA_6 lr_k_eachToken_tA_6 (Yb hB (by decide)) (Yb hB (by decide))) (λ_ _ h=>h) (zcB A30 A31 A32) (jcB A30 A31 A32)
theorem Zc6 (A30:jL) (A31:Jh) (A32:Jr) (h30:FO ro 30 (jaj A30)) (h31:FO ro 31 (jp A31)) (h32:FO ro 32 (JK A32)):zci sy prog GT (ovD ro) ro (Jaj A30 A31 A32) 1 f17.ntmps (za f17):=Ji (l:=[(zb (za f17) 0)]) (by kernel_rfl) (JF (ZcB A30 A31 A32 h30 h31 h32) je)
abbrev Zab:=Bt->(List Tok->Int->Prop)->Prop
def zak (A:Zab) (us:List W) (k:W->Prop):Prop:=match us with
 | [.s a0]=>A a0 (λr0 r1=>k (.t [.l Cd.tok r0,.i .i64 r1]))
 | _=>False
theorem Jeh {A A2:Zab} (h:FO ro 8 (zak A)) (hA:∀a0 K,A2 a0 K->A a0 K):FO ro 8 (zak A2):=h.weak (by intro us k h;unfold zak at h |-;split at h;exact hA _ _ h;exact h.elim)
def zdT (A30:jL) (A31:Jh) (A32:Jr) (a0:Bt) (K:List Tok->Int->Prop):Prop:=
 (A30 a0 (λy1 y2=>(((decide (y2≠0))=true->(((decide (y2≠0))=true->K ([]:List Tok) y2)/\((decide (y2≠0))=false->K ([]:List Tok) 0)))/\((decide (y2≠0))=false->(A31 y1 0 (λy3=>(∃m,Jaf A30 A31 A32 m y1 0 y3 ([]:List Tok) (λy4=>(((decide (0≠(0:Int)))=true->K ([]:List Tok) 0)/\((decide (0≠(0:Int)))=false->K y4 0))) (λy5 y6=>(((decide (y5≠0))=true->K ([]:List Tok) y5)/\((decide (y5≠0))=false->K y6 0))))))))))
def jdT (A30:jL) (A31:Jh) (A32:Jr):Zj sg:=tab [(17,inl sy prog GT (za2 A30 A31 A32) (Jaj A30 A31 A32) 1 f17.ntmps (za f17) f17.results.toList),(18,inl sy prog GT (ZbL) noL 1000 f18.ntmps (za f18) f18.results.toList)]
theorem ZfJ (A30:jL) (A31:Jh) (A32:Jr) (h30:FO ro 30 (jaj A30)) (h31:FO ro 31 (jp A31)) (h32:FO ro 32 (JK A32)) (o0:Nat->Prop):jC sy prog GT (ovD ro) o0 ro (jdT A30 A31 A32):=(Za (zdi (f:=17) (fn:=f17) (λ_ _=>rfl) func17 (by kernel_rfl) rfl rfl (zbm A30 A31 A32 h30 h31 h32) (Zc6 A30 A31 A32 h30 h31 h32)) (Za (zdi (f:=18) (fn:=f18) (λ_ _=>rfl) func18 (by kernel_rfl) rfl rfl (zb7) (Ji (l:=[]) (by kernel_rfl) je)) Jd)) o0
theorem JfJ (A30:jL) (A31:Jh) (A32:Jr) (a0:Bt) (k:W->Prop):fU sy (jdT A30 A31 A32) noL [some Cd.tok,none] f8 [.s a0] k=zdT A30 A31 A32 a0 (λr0 r1=>k (.t [.l Cd.tok r0,.i .i64 r1])):=by kernel_rfl
theorem Zgw (A30:jL) (A31:Jh) (A32:Jr) (h30:FO ro 30 (jaj A30)) (h31:FO ro 31 (jp A31)) (h32:FO ro 32 (JK A32)):FO ro 8 (zak (zdT A30 A31 A32)):=(fB f8 (rc:=[some Cd.tok,none]) (C:=jdT A30 A31 A32) (L:=noL) (λ_ _=>rfl) func8 (by kernel_rfl) (ZfJ A30 A31 A32 h30 h31 h32) (Ji (l:=[]) (by kernel_rfl) je)).weak (by intro us k h;unfold zak at h;split at h;rw [JfJ];exact h;exact h.elim)
