/-
 What is known beforehand of this program. Nothing is claimed here.
-/
import Derived.Test.YtmnegokadegioaaGreatDoorOd
import Derived.Test.YtmnegokadegioaaGreatDoorOe
import Derived.Test.YtmnegokadegioaaGreatDoorOf
import Derived.Test.YtmnegokadegioaaGreatDoorOg
import Derived.Test.YtmnegokadegioaaGreatDoorOh
namespace Go.Proofs.YtmnegokadegioaaGreatDoor
open Go.Vm Go.RowKit
theorem JiG:∃m st',evF Tryz.prog (ov1 GL) GL m 17 [] (st0 gs1)=some (.b true,st'):=by
 have h:=zi8;unfold alE at h;split at h
 ·rename_i x st' e;subst h;exact ⟨100000,st',e⟩
 ·cases h
theorem ziH {n:Nat} (h:n<256):∃m st',evF Tryz.prog (zcM ovI) GL m 56 [.i .u8 (.ofNat n)] (st0 [])=some (V.b (zgv n),st'):=by
 have e:dlE n=true:=by
  rcases Nat.lt_or_ge n 86 with q|q
  ·exact zel ji8 n q
  ·rcases Nat.lt_or_ge n 172 with q2|q2
   ·have:=zel ZiG (n-86) (by omega)
    rwa [show n-86+86=n from by omega] at this
   ·have:=zel Zik (n-172) (by omega)
    rwa [show n-172+172=n from by omega] at this
 unfold dlE at e;split at e
 ·rename_i x st' e2;refine ⟨100000,st',?_⟩;rw [e2];cases x with
  | true=>simp only [cond_true] at e;rw [e]
  | false=>simp only [cond_false,Bool.not_eq_true'] at e;rw [e]
 ·cases e
def ovL0:Ov0:=fun f args=>cond (Nat.beq f 17) (match args with
 | []=>some (.b true)
 | _::_=>none) none
theorem JhP {B:World} (hB:B.ShapedOpen Tryz.prog) (hG:GOn B gs1):ZeL Tryz.prog B ovL0:=by
 intro f args v h;unfold ovL0 at h;cases hf:Nat.beq f 17 with
 | false=>rw [hf] at h;cases h
 | true=>
  rw [hf] at h;rw [Nat.beq_eq] at hf;subst hf;cases args with
  | cons _ _=>cases h
  | nil=>
   obtain rfl:=Option.some.inj h;refine ⟨rfl,trivial,⟨_,_,Tryz.func17,rfl⟩,fun J w _ hw=>?_⟩
   obtain ⟨m,st',he⟩:=JiG;refine (zcy hG (Jhy hB) mixed Zfi (by simp [V.oks]) he w hw).mono ?_
   rintro e w' ⟨J',h1,h3⟩;exact ⟨by rw [h1];simp [V.real],h3⟩
theorem Jik {P:Program} {B:World} {a b:Ov0} (ha:ZeL P B a) (hb:ZeL P B b):ZeL P B (fun f args=>match a f args with|some r=>some r|none=>b f args):=by
 intro f args v h;dsimp only at h;cases hc:a f args with
 | some r=>rw [hc] at h;exact ha f args v (hc.trans h)
 | none=>rw [hc] at h;exact hb f args v h
def ovDl:Ov0:=fun f args=>cond (Nat.beq f 56) (match args with
 | [.i .u8 (.ofNat n)]=>cond (Nat.blt n 256) (some (V.b (zgv n))) none
 | _=>none) none
theorem zhQ {B:World} (hB:B.ShapedOpen Tryz.prog):ZeL Tryz.prog B ovDl:=by
 intro f args v h;unfold ovDl at h;cases hf:Nat.beq f 56 with
 | false=>rw [hf] at h;cases h
 | true=>
  rw [hf] at h;rw [Nat.beq_eq] at hf;subst hf;simp only [cond_true] at h;split at h
  ·rename_i n;cases hn:Nat.blt n 256 with
   | false=>rw [hn] at h;cases h
   | true=>
    rw [hn] at h;obtain rfl:=Option.some.inj h;rw [Nat.blt_eq] at hn;refine ⟨rfl,trivial,⟨_,_,Tryz.func56,rfl⟩,fun J w _ hw=>?_⟩
    obtain ⟨m,st',he⟩:=ziH hn;refine (zcy (B:=B) (gs:=[]) (fun x hx=>by cases hx) (Jef (Zhy hB)) mixed Zfi (by simp [V.oks,V.ok]) he w hw).mono ?_
    rintro e w' ⟨J',h1,h3⟩;exact ⟨by rw [h1];simp [V.real],h3⟩
  ·cases h
def ovL:Ov0:=fun f args=>match ovL0 f args with
 | some r=>some r
 | none=>ovDl f args
theorem zil {B:World} (hB:B.ShapedOpen Tryz.prog) (hG:GOn B gs1):ZeL Tryz.prog B ovL:=Jik (JhP hB hG) (zhQ hB)
theorem jil:∀w,(zeroValue 131).run Tryz.prog w=.ok (.agg zeros65) w:=fun w=>by
 have h:ja4 Tryz.prog 131=some (.a (List.replicate 65 (.i .u8 0))):=by kernel_rfl
 rw [Za2 J0 h];simp only [V.real,V.reals_eq,List.map_replicate];rfl
theorem Zi8 {B:World} (hG:GOn B gs1):Tabs Tryz.lays176_ren B:=by
 obtain ⟨_,_,c,e,fz,h1,h2⟩:=hG (2,gv2) (List.mem_cons_of_mem _ (List.mem_cons_of_mem _ (List.mem_cons_self ..)));obtain ⟨_,_,c',e',fz',h3,h4⟩:=hG (4,gv4) (List.mem_cons_of_mem _ (List.mem_cons_self ..));refine ⟨⟨e,fz,?_⟩,?_⟩
 ·show B.heap[2]?=_;rw [h1];have:c=(Lib.pow10Tab.map fun z=>Value.int .u64 z).toArray:=Array.ext' (by rw [h2];rfl)
  rw [this]
 ·show B.cell? ⟨4,15,none⟩=_;simp only [World.cell?];rw [h3];show c'[15]?=_;rw [←Array.getElem?_toList,h4];rfl
noncomputable def ovN (ro:Nat):Ov:=Jhx Tryz.prog 83 44 ro
theorem Zil {ro:Nat} {B:World} (hG:GOn B gs1):OvR Tryz.prog ro B (ovN ro):=jhO Tryz.lays176 jil (Zi8 hG)
noncomputable def ov2 (ro:Nat):Ov:=fun f args st=>match ovN ro f args st with
 | some r=>some r
 | none=>ov1 ro f args st
theorem Jil {ro:Nat} {B:World} (hB:B.ShapedOpen Tryz.prog) (hG:GOn B gs1):OvR Tryz.prog ro B (ov2 ro):=ZhP (Zil hG) (Jhy hB)
noncomputable def ovA (ro:Nat):Ov:=fun f args st=>match zcM ovL f args st with
 | some r=>some r
 | none=>ov2 ro f args st
theorem zim {ro:Nat} {B:World} (hB:B.ShapedOpen Tryz.prog) (hG:GOn B gs1):OvR Tryz.prog ro B (ovA ro):=ZhP (Jef (zil hB hG)) (Jil hB hG)
end Go.Proofs.YtmnegokadegioaaGreatDoor
