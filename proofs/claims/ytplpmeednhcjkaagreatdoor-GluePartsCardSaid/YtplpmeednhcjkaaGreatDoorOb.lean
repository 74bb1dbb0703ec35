/- Lemmas. -/
import Derived.Test.YtplpmeednhcjkaaGreatDoorOe
import Derived.Test.YtplpmeednhcjkaaGreatDoorOf
import Derived.Test.YtplpmeednhcjkaaGreatDoorOg
import Derived.Test.YtplpmeednhcjkaaGreatDoorOh
namespace Go.Proofs.YtplpmeednhcjkaaGreatDoor
open Go.Vm Go.RowKit
theorem Zjg:∃m st',evF Tryz.prog (ov1 GL) GL m 6 [] (st0 gs1)=some (.b true,st'):=by
 have h:=ZjH;unfold alE at h;split at h
 ·rename_i x st' e;subst h;exact ⟨100000,st',e⟩
 ·cases h
theorem Jjg {n:Nat} (h:n<256):∃m st',evF Tryz.prog (JcW ovI) GL m 21 [.i .u8 (.ofNat n)] (st0 [])=some (V.b (ZgT n),st'):=by
 have e:dlE n=true:=by
  rcases Hg n 86 with q|q
  ·exact jeD JjH n q
  ·rcases Hg n 172 with q2|q2
   ·have:=jeD jjg (n-86) (by omega)
    rwa [show n-86+86=n from by omega] at this
   ·have:=jeD ZiR (n-172) (by omega)
    rwa [show n-172+172=n from by omega] at this
 unfold dlE at e;split at e
 ·rename_i x st' e2;refine ⟨100000,st',?_⟩;rw [e2];cases x with
  | true=>simp only [Qa] at e;rw [e]
  | false=>simp only [Yc,Rm] at e;rw [e]
 ·cases e
def ovL0:Ov0:=λf args=>cond (Nat.beq f 6) (match args with
 | []=>some (.b true)
 | _::_=>none) none
theorem zik {B:World} (hB:B.ShapedOpen Tryz.prog) (hG:GOn B gs1):Je2 Tryz.prog B ovL0:=by
 intro f args v h;unfold ovL0 at h;cases hf:Nat.beq f 6 with
 | false=>rw [hf] at h;cases h
 | true=>
  rw [hf] at h;rw [Rc] at hf;subst hf;cases args with
  | cons _ _=>cases h
  | nil=>
   obtain rfl:=Rd h;refine ⟨rfl,trivial,⟨_,_,Tryz.func6,rfl⟩,λJ w _ hw=>?_⟩
   obtain ⟨m,st',he⟩:=Zjg;refine (ZcI hG (jh1 hB) mixed jfB (by simp [V.oks]) he w hw).mono ?_
   rintro e w' ⟨J',h1,h3⟩;exact ⟨by rw [h1];simp [V.real],h3⟩
theorem JiR {P:Program} {B:World} {a b:Ov0} (ha:Je2 P B a) (hb:Je2 P B b):Je2 P B (λf args=>match a f args with|some r=>some r|none=>b f args):=by
 intro f args v h;dsimp only at h;cases hc:a f args with
 | some r=>rw [hc] at h;exact ha f args v (hc.trans h)
 | none=>rw [hc] at h;exact hb f args v h
def ovDl:Ov0:=λf args=>cond (Nat.beq f 21) (match args with
 | [.i .u8 (.ofNat n)]=>cond (Nat.blt n 256) (some (V.b (ZgT n))) none
 | _=>none) none
theorem jik {B:World} (hB:B.ShapedOpen Tryz.prog):Je2 Tryz.prog B ovDl:=by
 intro f args v h;unfold ovDl at h;cases hf:Nat.beq f 21 with
 | false=>rw [hf] at h;cases h
 | true=>
  rw [hf] at h;rw [Rc] at hf;subst hf;simp only [Qa] at h;split at h
  ·rename_i n;cases hn:Nat.blt n 256 with
   | false=>rw [hn] at h;cases h
   | true=>
    rw [hn] at h;obtain rfl:=Rd h;rw [ge] at hn;refine ⟨rfl,trivial,⟨_,_,Tryz.func21,rfl⟩,λJ w _ hw=>?_⟩
    obtain ⟨m,st',he⟩:=Jjg hn;refine (ZcI (B:=B) (gs:=[]) (λx hx=>by cases hx) (Jex (zh1 hB)) mixed jfB (by simp [V.oks,V.ok]) he w hw).mono ?_
    rintro e w' ⟨J',h1,h3⟩;exact ⟨by rw [h1];simp [V.real],h3⟩
  ·cases h
def ovL:Ov0:=λf args=>match ovL0 f args with
 | some r=>some r
 | none=>ovDl f args
theorem ziS {B:World} (hB:B.ShapedOpen Tryz.prog) (hG:GOn B gs1):Je2 Tryz.prog B ovL:=JiR (zik hB hG) (jik hB)
theorem jiS:∀w,(zeroValue 124).run Tryz.prog w=.ok (.agg zeros65) w:=λw=>by
 have h:Zba Tryz.prog 124=some (.a (List.replicate 65 (.i .u8 0))):=by kernel_rfl
 rw [ja8 J0 h];simp only [V.real,Vre,List.map_replicate];rfl
theorem zjI {B:World} (hG:GOn B gs1):Tabs Tryz.lays176_ren B:=by
 obtain ⟨_,_,c,e,fz,h1,h2⟩:=hG (2,gv2) (gd _ (gd _ (yc ..)));obtain ⟨_,_,c',e',fz',h3,h4⟩:=hG (6,gv6) (gd _ (yc ..));refine ⟨⟨e,fz,?_⟩,?_⟩
 ·show B.heap[2]?=_;rw [h1];have:c=(Lib.pow10Tab.map λz=>Value.int .u64 z).toArray:=Ri (by rw [h2];rfl)
  rw [this]
 ·show B.cell? ⟨6,15,none⟩=_;simp only [World.cell?];rw [h3];show c'[15]?=_;rw [<-Array.getElem?_toList,h4];rfl
noncomputable def ovN (ro:Nat):Ov:=jh0 Tryz.prog 108 40 ro
theorem ZiS {ro:Nat} {B:World} (hG:GOn B gs1):OvR Tryz.prog ro B (ovN ro):=Zii Tryz.lays176 jiS (zjI hG)
noncomputable def ov2 (ro:Nat):Ov:=λf args st=>match ovN ro f args st with
 | some r=>some r
 | none=>ov1 ro f args st
theorem JiS {ro:Nat} {B:World} (hB:B.ShapedOpen Tryz.prog) (hG:GOn B gs1):OvR Tryz.prog ro B (ov2 ro):=Jij (ZiS hG) (jh1 hB)
noncomputable def ovA (ro:Nat):Ov:=λf args st=>match JcW ovL f args st with
 | some r=>some r
 | none=>ov2 ro f args st
theorem ziT {ro:Nat} {B:World} (hB:B.ShapedOpen Tryz.prog) (hG:GOn B gs1):OvR Tryz.prog ro B (ovA ro):=Jij (Jex (ziS hB hG)) (JiS hB hG)
