/- Lemmas. -/
import Derived.Test.YtplpmeednhcjkaaGreatDoorOc
import Derived.Test.YtplpmeednhcjkaaGreatDoorSh
import Derived.Test.YtplpmeednhcjkaaGreatDoorLp
import Derived.Test.YtplpmeednhcjkaaGreatDoorAw1
import Derived.Test.YtplpmeednhcjkaaGreatDoorIn1
import Derived.Test.YtplpmeednhcjkaaGreatDoorRows
import Derived.KernelRfl
import Derived.MakeChecks
namespace Go.Proofs.YtplpmeednhcjkaaGreatDoor
open Go.Vm Go.RowKit
theorem mixed:Tryz.prog.follows .mixedOrders=true:=by kernel_rfl
theorem JaR : (Tryz.prog.funcs.toList.all λfn => !(fn.name == "runtime.NumGoroutine")) = true := by kernel_rfl
theorem jfB (f : Nat) (fn : Func) (h : Tryz.prog.funcs[f]? = some fn) : (fn.name == "runtime.NumGoroutine") = false := by
 have:=Hk.1 JaR fn (Array.mem_toList_iff.2 (Array.mem_of_getElem? h));simpa using this
def gv5:List V:=[0,1,28,2,29,14,24,3,30,22,20,15,25,17,4,8,31,27,13,23,21,19,16,7,26,12,18,6,11,5,10,9].map λn=>.i .u8 (.ofNat n)
def gv6:List V:=[0,1,56,2,57,49,28,3,61,58,42,50,38,29,17,4,62,47,59,36,45,43,51,22,53,39,33,30,24,18,12,5,63,55,48,27,60,41,37,16,46,35,44,21,52,32,23,11,54,26,40,15,34,20,31,10,25,14,19,9,13,8,7,6].map λn=>.i .u8 (.ofNat n)
def gv2:List V:=[1,10,100,1000,10000,100000,1000000,10000000,100000000,1000000000,10000000000,100000000000,1000000000000,10000000000000,100000000000000,1000000000000000,10000000000000000,100000000000000000,1000000000000000000,10000000000000000000].map λn=>.i .u64 (.ofNat n)
def gv0:List V:=[0,0,0,0,0,0,0,0,0,0,0,0,0,0,0,0,0,0,0,0,0,0,0,0,0,0,0,0,0,0,0,0,0,0,0,0,0,0,0,0,21,22,0,0,18,0,0,0,0,0,0,0,0,0,0,0,0,0,16,17,0,0,0,0,0,0,0,0,0,0,0,0,0,0,0,0,0,0,0,0,0,0,0,0,0,0,0,0,0,0,0,19,0,20,0,0,0,0,0,0,0,0,0,0,0,0,0,0,0,0,0,0,0,0,0,0,0,0,0,0,0,0,0,23,0,24].map λn=>.i .u8 (.ofNat n)
def gs1:List (Nat×List V):=[(5,gv5),(6,gv6),(2,gv2),(0,gv0)]
theorem gon {W:World} (h:laidMetH Tryz.prog Rows.gluePartsRow.laid W):GOn W gs1:=by
 rw [MakeChecks.laidMetH_plain _ _ _ (by kernel_rfl)] at h
 have hr:=λn d hm=>Lib.laidMet.reads (n:=n) (d:=d) h hm
 intro x hx;simp only [gs1,gc,Qe,or_false] at hx;rcases hx with rfl|rfl|rfl|rfl
 ·exact JeC (hr _ _ (yc ..)) 4 (t0:=134) (by kernel_rfl) (by kernel_rfl) (by decide) (by kernel_rfl)
 ·exact JeC (hr _ _ (gd _ (yc ..))) 4 (t0:=135) (by kernel_rfl) (by kernel_rfl) (by decide) (by kernel_rfl)
 ·exact JeC (hr _ _ (gd _ (gd _ (yc ..)))) 4 (t0:=123) (by kernel_rfl) (by kernel_rfl) (by decide) (by kernel_rfl)
 ·exact JeC (hr _ _ (gd _ (gd _ (gd _ (gd _ (yc ..)))))) 4 (t0:=75) (by kernel_rfl) (by kernel_rfl) (by decide) (by kernel_rfl)
theorem zhy {B w:World} (h:Old B w) {b o:Nat} {v:Value} (hc:B.cell? ⟨b,o,none⟩=some v):w.cell? ⟨b,o,none⟩=some v:=by
 have hb:b<B.heap.size:=by
  rcases Hg b B.heap.size with q|q
  ·exact q
  ·unfold World.cell? at hc;rw [Array.getElem?_eq_none q] at hc;cases hc
 unfold World.cell? at hc |-;rw [h.block b hb];exact hc
def ixN:Nat->Nat->Nat->Nat->Int
 | 0,_,_,_=>-1
 | n+1,x,c,i=>cond (Nat.beq (x%256) c) (.ofNat i) (ixN n (x / 256) c (i+1))
theorem Jf7 (c:Nat) (hc:c<256):∀(n x i:Nat),-1<=Lib.indexByte (Jf n x) (UInt8.ofNat c)/\ixN n x c i=if Lib.indexByte (Jf n x) (UInt8.ofNat c) = -1 then -1 else Lib.indexByte (Jf n x) (UInt8.ofNat c)+i
 | 0,x,i=>by simp [Jf,Lib.indexByte,ixN]
 | n+1,x,i=>by
  obtain ⟨h1,h2⟩:=Jf7 c hc n (x / 256) (i+1);have key:(UInt8.ofNat (x%256)==UInt8.ofNat c)=Nat.beq (x%256) c:=by
   have hx:x%256<256:=gh _ (by decide)
   rw [He,beq_iff_eq,Rc];constructor
   ·intro h;have:=Ya UInt8.toNat h;simpa [Hm hx,Hm hc] using this
   ·intro h;rw [h]
  simp only [Jf,Lib.indexByte,ixN,key,h2];cases Nat.beq (x%256) c with
  | true=>simp
  | false=>
   simp only [Yc,yd,if_false,beq_iff_eq];by_cases e:Lib.indexByte (Jf n (x / 256)) (UInt8.ofNat c) = -1
   ·simp [e]
   ·simp only [ga e];refine ⟨by omega,?_⟩
    rw [ga (by omega)]
    omega
def ovI:Ov0:=λf args=>cond (Nat.beq f 89) (match args with
 | [.s l x,.s m y]=>cond (Nat.blt l 4294967281) (some (.i .i64 (Lib.index (Jf l x) (Jf m y)))) none
 | _=>none) (cond (Nat.beq f 74) (match args with
 | [.s l x,.i .u8 (.ofNat c)]=>cond (Nat.blt c 256) (some (.i .i64 (ixN l x c 0))) none
 | _=>none) none)
theorem zh1 {B:World} (hB:B.ShapedOpen Tryz.prog):Je2 Tryz.prog B ovI:=by
 intro f args v h;unfold ovI at h;cases hf:Nat.beq f 89 with
 | false=>
  rw [hf,Yc] at h;cases hf':Nat.beq f 74 with
  | false=>rw [hf'] at h;cases h
  | true=>
   rw [hf'] at h;rw [Rc] at hf';subst hf';simp only [Qa] at h;split at h
   ·rename_i l x c;cases hc:Nat.blt c 256 with
    | false=>rw [hc] at h;cases h
    | true=>
     rw [hc] at h;obtain rfl:=Rd h;rw [ge] at hc;refine ⟨rfl,trivial,⟨_,_,Tryz.func74,rfl⟩,λJ w _ hw=>?_⟩
     refine (Any.stringslite_IndexByte { Tryz.lays219 with } ⟨(Jf l x).toArray⟩ (c:Int) w).mono ?_
     rintro e w' ⟨he,rfl⟩;refine ⟨?_,Below.refl _ _⟩;rw [he];have h2:=(Jf7 c hc l x 0).2;have h1:=(Jf7 c hc l x 0).1;simp only [V.real];rw [h2];congr 2;show Lib.indexByte (Jf l x) (UInt8.ofNat c)=_;split
     ·assumption
     ·omega
   ·cases h
 | true=>
  rw [hf] at h;rw [Rc] at hf;subst hf;simp only [Qa] at h;split at h
  ·rename_i l x m y;cases hl:Nat.blt l 4294967281 with
   | false=>rw [hl] at h;cases h
   | true=>
    rw [hl] at h;obtain rfl:=Rd h;rw [ge] at hl;refine ⟨rfl,trivial,⟨_,_,Tryz.func89,rfl⟩,λJ w _ hw=>?_⟩
    obtain ⟨mx,hm⟩:=Tryz.laysM219.s1_3 B hB;have hs:(⟨(Jf l x).toArray⟩:ByteArray).size<4294967281:=by
     show (Jf l x).toArray.size<_;rw [List.size_toArray,zp];exact hl
    refine (Tryz.stringslite_Index ⟨(Jf l x).toArray⟩ ⟨(Jf m y).toArray⟩ mx w hs (zhy hw hm)).mono ?_;rintro e w' ⟨he,rfl⟩;exact ⟨by rw [he];simp [V.real],Below.refl _ _⟩
  ·cases h
theorem Jij {P:Program} {ro:Nat} {B:World} {a b:Ov} (ha:OvR P ro B a) (hb:OvR P ro B b):OvR P ro B (λf args st=>match a f args st with|some r=>some r|none=>b f args st):=by
 intro B' hB f args st v st' h;dsimp only at h;cases hc:a f args st with
 | some r=>rw [hc] at h;exact ha B' hB f args st v st' (hc.trans h)
 | none=>rw [hc] at h;exact hb B' hB f args st v st' h
def ovV (ro:Nat):Ov:=λf args st=>cond (Nat.beq f 29) (Zh0 ro args st) none
def ov1 (ro:Nat):Ov:=λf args st=>match ovV ro f args st with
 | some r=>some r
 | none=>JcW ovI f args st
theorem jh1 {ro:Nat} {B:World} (hB:B.ShapedOpen Tryz.prog):OvR Tryz.prog ro B (ov1 ro):=Jij (λ_ _=>Zij jjH) (Jex (zh1 hB))
def ZgT (c:Nat):Bool:=Nat.beq (276479423227249464899704638285675481598 / 2^c%2) 1
noncomputable def jiR (n:Nat) (p:Nat->Bool):Bool:=Nat.rec (motive:=λ_=>Bool) true (λk ih=>cond (p k) ih false) n
theorem jeD {p:Nat->Bool}:∀{n:Nat},jiR n p=true->∀k,k<n->p k=true
 | n+1,h,k,hk=>by
  have h':cond (p n) (jiR n p) false=true:=h;cases hp:p n with
  | false=>rw [hp] at h';cases h'
  | true=>
   rw [hp] at h';rcases Hg k n with q|q
   ·exact jeD h' k q
   ·have:k=n:=by omega
    subst this;exact hp
noncomputable def dlE (n:Nat):Bool:=match evF Tryz.prog (JcW ovI) GL 100000 21 [.i .u8 (.ofNat n)] (st0 []) with
 | some (.b x,_)=>cond x (ZgT n) (!(ZgT n))
 | _=>false
noncomputable def alE:Bool:=match evF Tryz.prog (ov1 GL) GL 100000 6 [] (st0 gs1) with
 | some (.b x,_)=>x
 | _=>false
