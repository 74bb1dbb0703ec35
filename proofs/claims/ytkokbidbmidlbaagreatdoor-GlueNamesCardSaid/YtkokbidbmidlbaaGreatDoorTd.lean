/-
 Functions of the tokenizer, followed. Nothing is claimed here.
-/
import Derived.Test.YtkokbidbmidlbaaGreatDoorTa
import Derived.Test.YtkokbidbmidlbaaGreatDoorOb
import Derived.Test.YtkokbidbmidlbaaGreatDoorSa2
namespace Go.Proofs.YtkokbidbmidlbaaGreatDoor
open Go.Vm Go.Sx Go.RowKit
variable {ro : Nat}
def marksL : List Int := [0, 0, 0, 0, 0, 0, 0, 0, 0, 0, 0, 0, 0, 0, 0, 0, 0, 0, 0, 0, 0, 0, 0, 0, 0, 0, 0, 0, 0, 0, 0, 0, 0, 0, 0, 0, 0, 0, 0, 0, 21, 22, 0, 0, 18, 0, 0, 0, 0, 0, 0, 0, 0, 0, 0, 0, 0, 0, 16, 17, 0, 0, 0, 0, 0, 0, 0, 0, 0, 0, 0, 0, 0, 0, 0, 0, 0, 0, 0, 0, 0, 0, 0, 0, 0, 0, 0, 0, 0, 0, 0, 19, 0, 20, 0, 0, 0, 0, 0, 0, 0, 0, 0, 0, 0, 0, 0, 0, 0, 0, 0, 0, 0, 0, 0, 0, 0, 0, 0, 0, 0, 0, 0, 23, 0, 24]
def GT : Gl
 | 0 => some (.u8, marksL)
 | _ => none
noncomputable def ovD (ro : Nat) : Ov := ovA ro
abbrev FO (ro : Nat) (f : FuncId) (pt : List W → (W → Prop) → Prop) : Prop := FnOK sy Tryz.prog GT (ovD ro) ro f pt
def noT (_ : List W) (_ : W → Prop) : Prop := False
theorem Zbx {ro : Nat} (f : FuncId) : FO ro f noT := fun _ _ _ h => h.elim
abbrev T_k_byteAt := Bt → Int → (Int → Prop) → Prop
def zb (A : T_k_byteAt) (us : List W) (k : W → Prop) : Prop := match us with
 | [.s a0, .i .i64 a1] => A a0 a1 (fun r0 => k (.i .u8 r0))
 | _ => False
theorem Zcl {A A2 : T_k_byteAt} (h : FO ro 81 (zb A)) (hA : ∀ a0 a1 K, A2 a0 a1 K → A a0 a1 K) : FO ro 81 (zb A2) := h.weak (by
 intro us k h
 unfold zb at h ⊢
 split at h
 ·exact hA _ _ _ h
 ·exact h.elim)
def Ja7 (a0 : Bt) (a1 : Int) (K : Int → Prop) : Prop :=
 (((decide (a1 < (a0.length : Int))) = true → ((0 ≤ a1 ∧ a1 < (a0.length : Int)) ∧ K ((a0.getD a1.toNat 0).toNat : Int))) ∧ ((decide (a1 < (a0.length : Int))) = false → K (0 : Int)))
def zbI : jg sg := tab []
theorem Jdp (o0 : Nat → Prop) : zh sy Tryz.prog GT (ovD ro) o0 ro (zbI) := jc o0
theorem zdq (a0 : Bt) (a1 : Int) (k : W → Prop) : fnT sy Tryz.prog GT (zbI) noL Tryz.f81.ntmps (za Tryz.f81) [none] Tryz.f81.results.toList [.s a0, .i .i64 a1] k = Ja7 a0 a1 (fun r0 => k (.i .u8 r0)) := by kernel_rfl
theorem jdO : FO ro 81 (zb (Ja7)) := (Zq (rc := [none]) (f := 81) (fn := Tryz.f81) (c := za Tryz.f81) (nt := Tryz.f81.ntmps) (res := Tryz.f81.results.toList) (C := zbI) (L := noL) (fun _ _ => rfl) Tryz.func81 (by kernel_rfl) rfl rfl (Jdp) (Jf (l := []) (by kernel_rfl) Jc)).weak (by
 intro us k h
 unfold zb at h
 split at h
 ·skip
  rename_i a0 a1
  rw [zdq a0 a1 k]
  exact h
 ·exact h.elim)
abbrev T_c_IsDigit := Int → (Bool → Prop) → Prop
def jd (A : T_c_IsDigit) (us : List W) (k : W → Prop) : Prop := match us with
 | [.i .u8 a0] => A a0 (fun r0 => k (.b r0))
 | _ => False
theorem zb0 {A A2 : T_c_IsDigit} (h : FO ro 87 (jd A)) (hA : ∀ a0 K, A2 a0 K → A a0 K) : FO ro 87 (jd A2) := h.weak (by
 intro us k h
 unfold jd at h ⊢
 split at h
 ·exact hA _ _ h
 ·exact h.elim)
def zaG (a0 : Int) (K : Bool → Prop) : Prop :=
 (((decide ((48 : Int) ≤ a0)) = true → K (decide (a0 ≤ 57))) ∧ ((decide ((48 : Int) ≤ a0)) = false → K false))
def jbl : jg sg := tab []
theorem Jc1 (o0 : Nat → Prop) : zh sy Tryz.prog GT (ovD ro) o0 ro (jbl) := jc o0
theorem zc2 (a0 : Int) (k : W → Prop) : fnT sy Tryz.prog GT (jbl) noL Tryz.f87.ntmps (za Tryz.f87) [none] Tryz.f87.results.toList [.i .u8 a0] k = zaG a0 (fun r0 => k (.b r0)) := by kernel_rfl
theorem jdq : FO ro 87 (jd (zaG)) := (Zq (rc := [none]) (f := 87) (fn := Tryz.f87) (c := za Tryz.f87) (nt := Tryz.f87.ntmps) (res := Tryz.f87.results.toList) (C := jbl) (L := noL) (fun _ _ => rfl) Tryz.func87 (by kernel_rfl) rfl rfl (Jc1) (Jf (l := []) (by kernel_rfl) Jc)).weak (by
 intro us k h
 unfold jd at h
 split at h
 ·skip
  rename_i a0
  rw [zc2 a0 k]
  exact h
 ·exact h.elim)
abbrev T_k_isSign := Int → (Bool → Prop) → Prop
def js (A : T_k_isSign) (us : List W) (k : W → Prop) : Prop := match us with
 | [.i .u8 a0] => A a0 (fun r0 => k (.b r0))
 | _ => False
theorem Jcl {A A2 : T_k_isSign} (h : FO ro 86 (js A)) (hA : ∀ a0 K, A2 a0 K → A a0 K) : FO ro 86 (js A2) := h.weak (by
 intro us k h
 unfold js at h ⊢
 split at h
 ·exact hA _ _ h
 ·exact h.elim)
def za8 (a0 : Int) (K : Bool → Prop) : Prop :=
 (((decide (a0 = 43)) = false → K (decide (a0 = 45))) ∧ ((decide (a0 = 43)) = true → K true))
def jbI : jg sg := tab []
theorem Zdq (o0 : Nat → Prop) : zh sy Tryz.prog GT (ovD ro) o0 ro (jbI) := jc o0
theorem Jdq (a0 : Int) (k : W → Prop) : fnT sy Tryz.prog GT (jbI) noL Tryz.f86.ntmps (za Tryz.f86) [none] Tryz.f86.results.toList [.i .u8 a0] k = za8 a0 (fun r0 => k (.b r0)) := by kernel_rfl
theorem ZdO : FO ro 86 (js (za8)) := (Zq (rc := [none]) (f := 86) (fn := Tryz.f86) (c := za Tryz.f86) (nt := Tryz.f86.ntmps) (res := Tryz.f86.results.toList) (C := jbI) (L := noL) (fun _ _ => rfl) Tryz.func86 (by kernel_rfl) rfl rfl (Zdq) (Jf (l := []) (by kernel_rfl) Jc)).weak (by
 intro us k h
 unfold js at h
 split at h
 ·skip
  rename_i a0
  rw [Jdq a0 k]
  exact h
 ·exact h.elim)
abbrev T_k_fSt := Bt → Int → (Bool → Prop) → Prop
def Jad (A : T_k_fSt) (us : List W) (k : W → Prop) : Prop := match us with
 | [.s a0, .i .i64 a1] => A a0 a1 (fun r0 => k (.b r0))
 | _ => False
theorem zdr {A A2 : T_k_fSt} (h : FO ro 88 (Jad A)) (hA : ∀ a0 a1 K, A2 a0 a1 K → A a0 a1 K) : FO ro 88 (Jad A2) := h.weak (by
 intro us k h
 unfold Jad at h ⊢
 split at h
 ·exact hA _ _ _ h
 ·exact h.elim)
def jc2 (A81 : T_k_byteAt) (A87 : T_c_IsDigit) (a0 : Bt) (a1 : Int) (K : Bool → Prop) : Prop :=
 (A81 a0 a1 (fun y1 => (((decide (y1 = 46)) = true → (I64 (a1 + 1) ∧ (A81 a0 (a1 + 1) (fun y2 => (A87 y2 (fun y3 => K y3)))))) ∧ ((decide (y1 = 46)) = false → K false))))
def JdO (A81 : T_k_byteAt) (A87 : T_c_IsDigit) : jg sg := tab [(81, con [none, none] (zb A81)), (87, con [none] (jd A87))]
theorem ZeN (A81 : T_k_byteAt) (A87 : T_c_IsDigit) (h81 : FO ro 81 (zb A81)) (h87 : FO ro 87 (jd A87)) (o0 : Nat → Prop) : zh sy Tryz.prog GT (ovD ro) o0 ro (JdO A81 A87) := (ja (Zb h81) (ja (Zb h87) jc)) o0
theorem JeN (A81 : T_k_byteAt) (A87 : T_c_IsDigit) (a0 : Bt) (a1 : Int) (k : W → Prop) : fnT sy Tryz.prog GT (JdO A81 A87) noL Tryz.f88.ntmps (za Tryz.f88) [none] Tryz.f88.results.toList [.s a0, .i .i64 a1] k = jc2 A81 A87 a0 a1 (fun r0 => k (.b r0)) := by kernel_rfl
theorem zfi (A81 : T_k_byteAt) (A87 : T_c_IsDigit) (h81 : FO ro 81 (zb A81)) (h87 : FO ro 87 (jd A87)) : FO ro 88 (Jad (jc2 A81 A87)) := (Zq (rc := [none]) (f := 88) (fn := Tryz.f88) (c := za Tryz.f88) (nt := Tryz.f88.ntmps) (res := Tryz.f88.results.toList) (C := JdO A81 A87) (L := noL) (fun _ _ => rfl) Tryz.func88 (by kernel_rfl) rfl rfl (ZeN A81 A87 h81 h87) (Jf (l := []) (by kernel_rfl) Jc)).weak (by
 intro us k h
 unfold Jad at h
 split at h
 ·skip
  rename_i a0 a1
  rw [JeN A81 A87 a0 a1 k]
  exact h
 ·exact h.elim)
abbrev T_k_nSt := Bt → Int → (Bool → Prop) → Prop
def jaG (A : T_k_nSt) (us : List W) (k : W → Prop) : Prop := match us with
 | [.s a0, .i .i64 a1] => A a0 a1 (fun r0 => k (.b r0))
 | _ => False
theorem jdr {A A2 : T_k_nSt} (h : FO ro 47 (jaG A)) (hA : ∀ a0 a1 K, A2 a0 a1 K → A a0 a1 K) : FO ro 47 (jaG A2) := h.weak (by
 intro us k h
 unfold jaG at h ⊢
 split at h
 ·exact hA _ _ _ h
 ·exact h.elim)
def Zc2 (A81 : T_k_byteAt) (A86 : T_k_isSign) (A87 : T_c_IsDigit) (A88 : T_k_fSt) (a0 : Bt) (a1 : Int) (K : Bool → Prop) : Prop :=
 (A81 a0 a1 (fun y1 => (A86 y1 (fun y2 => ((y2 = true → (I64 (a1 + 1) ∧ (A81 a0 (a1 + 1) (fun y3 => (A87 y3 (fun y4 => ((y4 = false → (A88 a0 (a1 + 1) (fun y5 => K y5))) ∧ (y4 = true → K true)))))))) ∧ (y2 = false → (A81 a0 a1 (fun y6 => (A87 y6 (fun y7 => ((y7 = false → (A88 a0 a1 (fun y8 => K y8))) ∧ (y7 = true → K true))))))))))))
def zdP (A81 : T_k_byteAt) (A86 : T_k_isSign) (A87 : T_c_IsDigit) (A88 : T_k_fSt) : jg sg := tab [(81, con [none, none] (zb A81)), (86, con [none] (js A86)), (87, con [none] (jd A87)), (88, con [none, none] (Jad A88))]
theorem zeO (A81 : T_k_byteAt) (A86 : T_k_isSign) (A87 : T_c_IsDigit) (A88 : T_k_fSt) (h81 : FO ro 81 (zb A81)) (h86 : FO ro 86 (js A86)) (h87 : FO ro 87 (jd A87)) (h88 : FO ro 88 (Jad A88)) (o0 : Nat → Prop) : zh sy Tryz.prog GT (ovD ro) o0 ro (zdP A81 A86 A87 A88) := (ja (Zb h81) (ja (Zb h86) (ja (Zb h87) (ja (Zb h88) jc)))) o0
theorem jeO (A81 : T_k_byteAt) (A86 : T_k_isSign) (A87 : T_c_IsDigit) (A88 : T_k_fSt) (a0 : Bt) (a1 : Int) (k : W → Prop) : fnT sy Tryz.prog GT (zdP A81 A86 A87 A88) noL Tryz.f47.ntmps (za Tryz.f47) [none] Tryz.f47.results.toList [.s a0, .i .i64 a1] k = Zc2 A81 A86 A87 A88 a0 a1 (fun r0 => k (.b r0)) := by kernel_rfl
theorem jfi (A81 : T_k_byteAt) (A86 : T_k_isSign) (A87 : T_c_IsDigit) (A88 : T_k_fSt) (h81 : FO ro 81 (zb A81)) (h86 : FO ro 86 (js A86)) (h87 : FO ro 87 (jd A87)) (h88 : FO ro 88 (Jad A88)) : FO ro 47 (jaG (Zc2 A81 A86 A87 A88)) := (Zq (rc := [none]) (f := 47) (fn := Tryz.f47) (c := za Tryz.f47) (nt := Tryz.f47.ntmps) (res := Tryz.f47.results.toList) (C := zdP A81 A86 A87 A88) (L := noL) (fun _ _ => rfl) Tryz.func47 (by kernel_rfl) rfl rfl (zeO A81 A86 A87 A88 h81 h86 h87 h88) (Jf (l := []) (by kernel_rfl) Jc)).weak (by
 intro us k h
 unfold jaG at h
 split at h
 ·skip
  rename_i a0 a1
  rw [jeO A81 A86 A87 A88 a0 a1 k]
  exact h
 ·exact h.elim)
abbrev T_k_isExponentMark := Int → (Bool → Prop) → Prop
def Zl (A : T_k_isExponentMark) (us : List W) (k : W → Prop) : Prop := match us with
 | [.i .u8 a0] => A a0 (fun r0 => k (.b r0))
 | _ => False
theorem ZaG {A A2 : T_k_isExponentMark} (h : FO ro 91 (Zl A)) (hA : ∀ a0 K, A2 a0 K → A a0 K) : FO ro 91 (Zl A2) := h.weak (by
 intro us k h
 unfold Zl at h ⊢
 split at h
 ·exact hA _ _ h
 ·exact h.elim)
def ZM (a0 : Int) (K : Bool → Prop) : Prop :=
 (((decide (a0 = 101)) = false → K (decide (a0 = 69))) ∧ ((decide (a0 = 101)) = true → K true))
def ZZ : jg sg := tab []
theorem Zbb (o0 : Nat → Prop) : zh sy Tryz.prog GT (ovD ro) o0 ro (ZZ) := jc o0
theorem Jbb (a0 : Int) (k : W → Prop) : fnT sy Tryz.prog GT (ZZ) noL Tryz.f91.ntmps (za Tryz.f91) [none] Tryz.f91.results.toList [.i .u8 a0] k = ZM a0 (fun r0 => k (.b r0)) := by kernel_rfl
theorem Zbl : FO ro 91 (Zl (ZM)) := (Zq (rc := [none]) (f := 91) (fn := Tryz.f91) (c := za Tryz.f91) (nt := Tryz.f91.ntmps) (res := Tryz.f91.results.toList) (C := ZZ) (L := noL) (fun _ _ => rfl) Tryz.func91 (by kernel_rfl) rfl rfl (Zbb) (Jf (l := []) (by kernel_rfl) Jc)).weak (by
 intro us k h
 unfold Zl at h
 split at h
 ·skip
  rename_i a0
  rw [Jbb a0 k]
  exact h
 ·exact h.elim)
abbrev T_k_digitStarts := Bt → Int → (Bool → Prop) → Prop
def zr (A : T_k_digitStarts) (us : List W) (k : W → Prop) : Prop := match us with
 | [.s a0, .i .i64 a1] => A a0 a1 (fun r0 => k (.b r0))
 | _ => False
theorem zbc {A A2 : T_k_digitStarts} (h : FO ro 92 (zr A)) (hA : ∀ a0 a1 K, A2 a0 a1 K → A a0 a1 K) : FO ro 92 (zr A2) := h.weak (by
 intro us k h
 unfold zr at h ⊢
 split at h
 ·exact hA _ _ _ h
 ·exact h.elim)
def JZ (A81 : T_k_byteAt) (A86 : T_k_isSign) (A87 : T_c_IsDigit) (a0 : Bt) (a1 : Int) (K : Bool → Prop) : Prop :=
 (A81 a0 a1 (fun y1 => (A86 y1 (fun y2 => ((y2 = true → (I64 (a1 + 1) ∧ (A81 a0 (a1 + 1) (fun y3 => (A87 y3 (fun y4 => K y4)))))) ∧ (y2 = false → (A81 a0 a1 (fun y5 => (A87 y5 (fun y6 => K y6))))))))))
def zak (A81 : T_k_byteAt) (A86 : T_k_isSign) (A87 : T_c_IsDigit) : jg sg := tab [(81, con [none, none] (zb A81)), (86, con [none] (js A86)), (87, con [none] (jd A87))]
theorem ZbI (A81 : T_k_byteAt) (A86 : T_k_isSign) (A87 : T_c_IsDigit) (h81 : FO ro 81 (zb A81)) (h86 : FO ro 86 (js A86)) (h87 : FO ro 87 (jd A87)) (o0 : Nat → Prop) : zh sy Tryz.prog GT (ovD ro) o0 ro (zak A81 A86 A87) := (ja (Zb h81) (ja (Zb h86) (ja (Zb h87) jc))) o0
theorem JbI (A81 : T_k_byteAt) (A86 : T_k_isSign) (A87 : T_c_IsDigit) (a0 : Bt) (a1 : Int) (k : W → Prop) : fnT sy Tryz.prog GT (zak A81 A86 A87) noL Tryz.f92.ntmps (za Tryz.f92) [none] Tryz.f92.results.toList [.s a0, .i .i64 a1] k = JZ A81 A86 A87 a0 a1 (fun r0 => k (.b r0)) := by kernel_rfl
theorem jb0 (A81 : T_k_byteAt) (A86 : T_k_isSign) (A87 : T_c_IsDigit) (h81 : FO ro 81 (zb A81)) (h86 : FO ro 86 (js A86)) (h87 : FO ro 87 (jd A87)) : FO ro 92 (zr (JZ A81 A86 A87)) := (Zq (rc := [none]) (f := 92) (fn := Tryz.f92) (c := za Tryz.f92) (nt := Tryz.f92.ntmps) (res := Tryz.f92.results.toList) (C := zak A81 A86 A87) (L := noL) (fun _ _ => rfl) Tryz.func92 (by kernel_rfl) rfl rfl (ZbI A81 A86 A87 h81 h86 h87) (Jf (l := []) (by kernel_rfl) Jc)).weak (by
 intro us k h
 unfold zr at h
 split at h
 ·skip
  rename_i a0 a1
  rw [JbI A81 A86 A87 a0 a1 k]
  exact h
 ·exact h.elim)
abbrev T_k_wNu := Bt → (Int → Prop) → Prop
def JaG (A : T_k_wNu) (us : List W) (k : W → Prop) : Prop := match us with
 | [.s a0] => A a0 (fun r0 => k (.i .i64 r0))
 | _ => False
theorem Zdr {A A2 : T_k_wNu} (h : FO ro 93 (JaG A)) (hA : ∀ a0 K, A2 a0 K → A a0 K) : FO ro 93 (JaG A2) := h.weak (by
 intro us k h
 unfold JaG at h ⊢
 split at h
 ·exact hA _ _ h
 ·exact h.elim)
def ja8 : Nat → Bt → Int → Int → Int → (Int → Prop) → Prop
 | 0, _, _, _, _, _ => False
 | n + 1, x0, x3, x6, x7, Ke => (((decide (x7 < x6)) = true → (I64 ((10 : Int) * x3) ∧ ((0 ≤ x7 ∧ x7 < (x0.length : Int)) ∧ (I64 (IntKind.u8.wrap (((x0.getD x7.toNat 0).toNat : Int) - (48 : Int))) ∧ (I64 (((10 : Int) * x3) + (IntKind.u8.wrap (((x0.getD x7.toNat 0).toNat : Int) - (48 : Int)))) ∧ (I64 (x7 + 1) ∧ ja8 n x0 (if (8000 : Int) < (((10 : Int) * x3) + (IntKind.u8.wrap (((x0.getD x7.toNat 0).toNat : Int) - (48 : Int)))) then (8000 : Int) else (((10 : Int) * x3) + (IntKind.u8.wrap (((x0.getD x7.toNat 0).toNat : Int) - (48 : Int))))) x6 (x7 + 1) Ke)))))) ∧ ((decide (x7 < x6)) = false → Ke x3))
def jdP (a0 : Bt) (K : Int → Prop) : Prop :=
 (∃ m, ja8 m a0 (0 : Int) (a0.length : Int) (0 : Int) (fun y1 => K y1))
def Jc2 : jg sg := tab []
theorem Jdr (o0 : Nat → Prop) : zh sy Tryz.prog GT (ovD ro) o0 ro (Jc2) := jc o0
def ls_k_wNu_3 : LS sy ((Bt) × Int × Int × Int × Unit) Unit := ⟨[], Jb 0 (zw sy) (Jb 3 (Ji sy .i64) (Jb 6 (Ji sy .i64) (Jb 7 (Ji sy .i64) (jz sy)))), Zz sy, 0, []⟩
def le_k_wNu_3 : LS sy (Int × Unit) Unit := ⟨[], Jb 3 (Ji sy .i64) (jz sy), Zz sy, 0, []⟩
def zbJ : LS sy Unit Unit := ⟨[], jz sy, Zz sy, 0, []⟩
def Za8 (n : Nat) (x : ((Bt) × Int × Int × Int × Unit) × Unit) (K : Ex → Z sg → Prop) : Prop := ja8 n x.1.1 x.1.2.1 x.1.2.2.1 x.1.2.2.2.1 (fun y0 => K (.exit 0) (le_k_wNu_3.put ((y0, ()), ())))
def ZeO (z : Z sg) (K : Ex → Z sg → Prop) : Prop := ls_k_wNu_3.get z (fun x => ∃ n, Za8 n x K)
def jbJ : zK sg := Zb8 [(3, ZeO)]
theorem jek (n : Nat) (x : ((Bt) × Int × Int × Int × Unit) × Unit) (K : Ex → Z sg → Prop) : Jp (ls_k_wNu_3.put x) (fun z => sC sy Tryz.prog GT (Jc2) (jbJ) Tryz.f93.ntmps (Ja (za Tryz.f93) 0) z (rnd ls_k_wNu_3 (czT 0 le_k_wNu_3 zbJ) (fun x => Za8 n x K) K)) = Za8 (n + 1) x K := by kernel_rfl
theorem Zek (z : Z sg) (K : Ex → Z sg → Prop) : (jbJ) (Ja (za Tryz.f93) 0) z K = ls_k_wNu_3.get z (fun x => ∃ n, Za8 n x K) := by kernel_rfl
theorem Jek : ∀ (o0 : Nat → Prop) (B : Bs sg), B.E.length ≤ 0 → ∀ z K, (jbJ) (Ja (za Tryz.f93) 0) z K → Sx.Sem sy Tryz.prog GT (ovD ro) o0 ro Tryz.f93.ntmps B (.loop (Ja (za Tryz.f93) 0)) z K :=
 Jy (Jdr) (Jf (l := []) (by kernel_rfl) Jc) ls_k_wNu_3 (by decide) (czT 0 le_k_wNu_3 zbJ) (fun _ _ hB => ZO 0 le_k_wNu_3 zbJ (Nat.le_trans hB (by decide)) (Nat.le_trans hB (by decide))) (fun _ _ h => h) (jek) (Zek)
theorem Zfi : jbH sy Tryz.prog GT (ovD ro) ro (jbJ) 0 Tryz.f93.ntmps (za Tryz.f93) := Jf (l := [(Ja (za Tryz.f93) 0)]) (by kernel_rfl) (Zy (Jek) Jc)
theorem JeO (a0 : Bt) (k : W → Prop) : fnT sy Tryz.prog GT (Jc2) (jbJ) Tryz.f93.ntmps (za Tryz.f93) [none] Tryz.f93.results.toList [.s a0] k = jdP a0 (fun r0 => k (.i .i64 r0)) := by kernel_rfl
theorem Jfi : FO ro 93 (JaG (jdP)) := (Zq (rc := [none]) (f := 93) (fn := Tryz.f93) (c := za Tryz.f93) (nt := Tryz.f93.ntmps) (res := Tryz.f93.results.toList) (C := Jc2) (L := (jbJ)) (fun _ _ => rfl) Tryz.func93 (by kernel_rfl) rfl rfl (Jdr) (Zfi)).weak (by
 intro us k h
 unfold JaG at h
 split at h
 ·skip
  rename_i a0
  rw [JeO a0 k]
  exact h
 ·exact h.elim)
abbrev T_gs_tLB := Bt → Int → (Bt → Prop) → Prop
def Jag (A : T_gs_tLB) (us : List W) (k : W → Prop) : Prop := match us with
 | [.s a0, .i .u8 a1] => A a0 a1 (fun r0 => k (.s r0))
 | _ => False
theorem zc3 {A A2 : T_gs_tLB} (h : FO ro 144 (Jag A)) (hA : ∀ a0 a1 K, A2 a0 a1 K → A a0 a1 K) : FO ro 144 (Jag A2) := h.weak (by
 intro us k h
 unfold Jag at h ⊢
 split at h
 ·exact hA _ _ _ h
 ·exact h.elim)
def zaH : Nat → Bt → Int → (Bt → Prop) → Prop
 | 0, _, _, _ => False
 | n + 1, x0, x1, Ke => (((decide ((0 : Int) < (x0.length : Int))) = true → ((0 ≤ (0 : Int) ∧ (0 : Int) < (x0.length : Int)) ∧ (((decide (((x0.getD 0 0).toNat : Int) = x1)) = true → ((0 ≤ (1 : Int) ∧ (1 : Int) ≤ (x0.length : Int)) ∧ zaH n (x0.drop 1) x1 Ke)) ∧ ((decide (((x0.getD 0 0).toNat : Int) = x1)) = false → Ke x0)))) ∧ ((decide ((0 : Int) < (x0.length : Int))) = false → Ke x0))
def jc3 (a0 : Bt) (a1 : Int) (K : Bt → Prop) : Prop :=
 (∃ m, zaH m a0 a1 (fun y1 => K y1))
def jb9 : jg sg := tab []
theorem jcP (o0 : Nat → Prop) : zh sy Tryz.prog GT (ovD ro) o0 ro (jb9) := jc o0
def ls_gs_tLB_1 : LS sy ((Bt) × Int × Unit) Unit := ⟨[], Jb 0 (zw sy) (Jb 1 (Ji sy .u8) (jz sy)), Zz sy, 0, []⟩
def le_gs_tLB_1 : LS sy ((Bt) × Unit) Unit := ⟨[], Jb 0 (zw sy) (jz sy), Zz sy, 0, []⟩
def Jbl : LS sy Unit Unit := ⟨[], jz sy, Zz sy, 0, []⟩
def jaH (n : Nat) (x : ((Bt) × Int × Unit) × Unit) (K : Ex → Z sg → Prop) : Prop := zaH n x.1.1 x.1.2.1 (fun y0 => K (.exit 0) (le_gs_tLB_1.put ((y0, ()), ())))
def zel (z : Z sg) (K : Ex → Z sg → Prop) : Prop := ls_gs_tLB_1.get z (fun x => ∃ n, jaH n x K)
def Ja8 : zK sg := Zb8 [(1, zel)]
theorem ZdP (n : Nat) (x : ((Bt) × Int × Unit) × Unit) (K : Ex → Z sg → Prop) : Jp (ls_gs_tLB_1.put x) (fun z => sC sy Tryz.prog GT (jb9) (Ja8) Tryz.f144.ntmps (Ja (za Tryz.f144) 0) z (rnd ls_gs_tLB_1 (czT 0 le_gs_tLB_1 Jbl) (fun x => jaH n x K) K)) = jaH (n + 1) x K := by kernel_rfl
theorem JdP (z : Z sg) (K : Ex → Z sg → Prop) : (Ja8) (Ja (za Tryz.f144) 0) z K = ls_gs_tLB_1.get z (fun x => ∃ n, jaH n x K) := by kernel_rfl
theorem zdQ : ∀ (o0 : Nat → Prop) (B : Bs sg), B.E.length ≤ 0 → ∀ z K, (Ja8) (Ja (za Tryz.f144) 0) z K → Sx.Sem sy Tryz.prog GT (ovD ro) o0 ro Tryz.f144.ntmps B (.loop (Ja (za Tryz.f144) 0)) z K :=
 Jy (jcP) (Jf (l := []) (by kernel_rfl) Jc) ls_gs_tLB_1 (by decide) (czT 0 le_gs_tLB_1 Jbl) (fun _ _ hB => ZO 0 le_gs_tLB_1 Jbl (Nat.le_trans hB (by decide)) (Nat.le_trans hB (by decide))) (fun _ _ h => h) (ZdP) (JdP)
theorem zeP : jbH sy Tryz.prog GT (ovD ro) ro (Ja8) 0 Tryz.f144.ntmps (za Tryz.f144) := Jf (l := [(Ja (za Tryz.f144) 0)]) (by kernel_rfl) (Zy (zdQ) Jc)
theorem jel (a0 : Bt) (a1 : Int) (k : W → Prop) : fnT sy Tryz.prog GT (jb9) (Ja8) Tryz.f144.ntmps (za Tryz.f144) [none] Tryz.f144.results.toList [.s a0, .i .u8 a1] k = jc3 a0 a1 (fun r0 => k (.s r0)) := by kernel_rfl
theorem jeP : FO ro 144 (Jag (jc3)) := (Zq (rc := [none]) (f := 144) (fn := Tryz.f144) (c := za Tryz.f144) (nt := Tryz.f144.ntmps) (res := Tryz.f144.results.toList) (C := jb9) (L := (Ja8)) (fun _ _ => rfl) Tryz.func144 (by kernel_rfl) rfl rfl (jcP) (zeP)).weak (by
 intro us k h
 unfold Jag at h
 split at h
 ·skip
  rename_i a0 a1
  rw [jel a0 a1 k]
  exact h
 ·exact h.elim)
abbrev T_gs_TrimLeft := Bt → Bt → (Bt → Prop) → Prop
def jr (A : T_gs_TrimLeft) (us : List W) (k : W → Prop) : Prop := match us with
 | [.s a0, .s a1] => A a0 a1 (fun r0 => k (.s r0))
 | _ => False
theorem Jbx {A A2 : T_gs_TrimLeft} (h : FO ro 125 (jr A)) (hA : ∀ a0 a1 K, A2 a0 a1 K → A a0 a1 K) : FO ro 125 (jr A2) := h.weak (by
 intro us k h
 unfold jr at h ⊢
 split at h
 ·exact hA _ _ _ h
 ·exact h.elim)
def ZaH (A144 : T_gs_tLB) (a0 : Bt) (a1 : Bt) (K : Bt → Prop) : Prop :=
 (((a0 == ([] : Bt)) = false → (((a1 == ([] : Bt)) = true → K a0) ∧ ((a1 == ([] : Bt)) = false → (((decide ((a1.length : Int) = (1 : Int))) = true → ((0 ≤ (0 : Int) ∧ (0 : Int) < (a1.length : Int)) ∧ (((decide (((a1.getD 0 0).toNat : Int) < (128 : Int))) = true → ((0 ≤ (0 : Int) ∧ (0 : Int) < (a1.length : Int)) ∧ (A144 a0 ((a1.getD 0 0).toNat : Int) (fun y1 => K y1)))) ∧ ((decide (((a1.getD 0 0).toNat : Int) < (128 : Int))) = false → False)))) ∧ ((decide ((a1.length : Int) = (1 : Int))) = false → False))))) ∧ ((a0 == ([] : Bt)) = true → K a0))
def JaH (A144 : T_gs_tLB) : jg sg := tab [(144, con [none, none] (Jag A144)), (145, con [] noT), (146, con [] noT), (147, con [] noT)]
theorem zcm (A144 : T_gs_tLB) (h144 : FO ro 144 (Jag A144)) (o0 : Nat → Prop) : zh sy Tryz.prog GT (ovD ro) o0 ro (JaH A144) := (ja (Zb h144) (ja (Zb (Zbx 145)) (ja (Zb (Zbx 146)) (ja (Zb (Zbx 147)) jc)))) o0
theorem jcm (A144 : T_gs_tLB) (a0 : Bt) (a1 : Bt) (k : W → Prop) : fnT sy Tryz.prog GT (JaH A144) noL Tryz.f125.ntmps (za Tryz.f125) [none] Tryz.f125.results.toList [.s a0, .s a1] k = ZaH A144 a0 a1 (fun r0 => k (.s r0)) := by kernel_rfl
theorem jcE (A144 : T_gs_tLB) (h144 : FO ro 144 (Jag A144)) : FO ro 125 (jr (ZaH A144)) := (Zq (rc := [none]) (f := 125) (fn := Tryz.f125) (c := za Tryz.f125) (nt := Tryz.f125.ntmps) (res := Tryz.f125.results.toList) (C := JaH A144) (L := noL) (fun _ _ => rfl) Tryz.func125 (by kernel_rfl) rfl rfl (zcm A144 h144) (Jf (l := []) (by kernel_rfl) Jc)).weak (by
 intro us k h
 unfold jr at h
 split at h
 ·skip
  rename_i a0 a1
  rw [jcm A144 a0 a1 k]
  exact h
 ·exact h.elim)
abbrev T_k_cNu := Bt → Int → (Int → Prop) → Prop
def zaI (A : T_k_cNu) (us : List W) (k : W → Prop) : Prop := match us with
 | [.s a0, .i .i64 a1] => A a0 a1 (fun r0 => k (.i .i64 r0))
 | _ => False
theorem zds {A A2 : T_k_cNu} (h : FO ro 94 (zaI A)) (hA : ∀ a0 a1 K, A2 a0 a1 K → A a0 a1 K) : FO ro 94 (zaI A2) := h.weak (by
 intro us k h
 unfold zaI at h ⊢
 split at h
 ·exact hA _ _ _ h
 ·exact h.elim)
def ZaA (A125 : T_gs_TrimLeft) : Nat → Bt → Int → Int → Int → (Int → Prop) → Prop
 | 0, _, _, _, _, _ => False
 | n + 1, x5, x6, x25, x26, Ke => (((decide (x26 < x25)) = true → (I64 (x6 * 10) ∧ (((decide (x26 < (x5.length : Int))) = true → ((0 ≤ x26 ∧ x26 < (x5.length : Int)) ∧ (I64 (IntKind.u8.wrap (((x5.getD x26.toNat 0).toNat : Int) - (48 : Int))) ∧ (I64 ((x6 * 10) + (IntKind.u8.wrap (((x5.getD x26.toNat 0).toNat : Int) - (48 : Int)))) ∧ (I64 (x26 + 1) ∧ ZaA A125 n x5 ((x6 * 10) + (IntKind.u8.wrap (((x5.getD x26.toNat 0).toNat : Int) - (48 : Int)))) x25 (x26 + 1) Ke))))) ∧ ((decide (x26 < (x5.length : Int))) = false → (I64 (x26 + 1) ∧ ZaA A125 n x5 (x6 * 10) x25 (x26 + 1) Ke))))) ∧ ((decide (x26 < x25)) = false → Ke x6))
def jdQ (A125 : T_gs_TrimLeft) (a0 : Bt) (a1 : Int) (K : Int → Prop) : Prop :=
 (A125 a0 ([48] : Bt) (fun y1 => (I64 ((a0.length : Int) - (y1.length : Int)) ∧ (I64 (a1 - ((a0.length : Int) - (y1.length : Int))) ∧ (((y1 == ([] : Bt)) = false → (((decide ((a1 - ((a0.length : Int) - (y1.length : Int))) ≤ 0)) = true → K (0 : Int)) ∧ ((decide ((a1 - ((a0.length : Int) - (y1.length : Int))) ≤ 0)) = false → (((decide ((13 : Int) < (a1 - ((a0.length : Int) - (y1.length : Int))))) = true → K (1000000000000 : Int)) ∧ ((decide ((13 : Int) < (a1 - ((a0.length : Int) - (y1.length : Int))))) = false → (∃ m, ZaA A125 m y1 (0 : Int) (a1 - ((a0.length : Int) - (y1.length : Int))) (0 : Int) (fun y2 => K (if (1000000000000 : Int) < y2 then (1000000000000 : Int) else y2)))))))) ∧ ((y1 == ([] : Bt)) = true → K (0 : Int)))))))
def Zc3 (A125 : T_gs_TrimLeft) : jg sg := tab [(125, con [none, none] (jr A125))]
theorem jds (A125 : T_gs_TrimLeft) (h125 : FO ro 125 (jr A125)) (o0 : Nat → Prop) : zh sy Tryz.prog GT (ovD ro) o0 ro (Zc3 A125) := (ja (Zb h125) jc) o0
def ls_k_cNu_9 : LS sy ((Bt) × Int × Int × Int × Unit) Unit := ⟨[], Jb 5 (zw sy) (Jb 6 (Ji sy .i64) (Jb 25 (Ji sy .i64) (Jb 26 (Ji sy .i64) (jz sy)))), Zz sy, 0, []⟩
def le_k_cNu_9 : LS sy (Int × Unit) Unit := ⟨[], Jb 6 (Ji sy .i64) (jz sy), Zz sy, 0, []⟩
def ZbJ : LS sy Unit Unit := ⟨[], jz sy, Zz sy, 0, []⟩
def za9 (A125 : T_gs_TrimLeft) (n : Nat) (x : ((Bt) × Int × Int × Int × Unit) × Unit) (K : Ex → Z sg → Prop) : Prop := ZaA A125 n x.1.1 x.1.2.1 x.1.2.2.1 x.1.2.2.2.1 (fun y0 => K (.exit 0) (le_k_cNu_9.put ((y0, ()), ())))
def ZeP (A125 : T_gs_TrimLeft) (z : Z sg) (K : Ex → Z sg → Prop) : Prop := ls_k_cNu_9.get z (fun x => ∃ n, za9 A125 n x K)
def JbJ (A125 : T_gs_TrimLeft) : zK sg := Zb8 [(9, ZeP A125)]
theorem Zel (A125 : T_gs_TrimLeft) (n : Nat) (x : ((Bt) × Int × Int × Int × Unit) × Unit) (K : Ex → Z sg → Prop) : Jp (ls_k_cNu_9.put x) (fun z => sC sy Tryz.prog GT (Zc3 A125) (JbJ A125) Tryz.f94.ntmps (Ja (za Tryz.f94) 0) z (rnd ls_k_cNu_9 (czT 0 le_k_cNu_9 ZbJ) (fun x => za9 A125 n x K) K)) = za9 A125 (n + 1) x K := by kernel_rfl
theorem Jel (A125 : T_gs_TrimLeft) (z : Z sg) (K : Ex → Z sg → Prop) : (JbJ A125) (Ja (za Tryz.f94) 0) z K = ls_k_cNu_9.get z (fun x => ∃ n, za9 A125 n x K) := by kernel_rfl
theorem zem (A125 : T_gs_TrimLeft) (h125 : FO ro 125 (jr A125)) : ∀ (o0 : Nat → Prop) (B : Bs sg), B.E.length ≤ 0 → ∀ z K, (JbJ A125) (Ja (za Tryz.f94) 0) z K → Sx.Sem sy Tryz.prog GT (ovD ro) o0 ro Tryz.f94.ntmps B (.loop (Ja (za Tryz.f94) 0)) z K :=
 Jy (jds A125 h125) (Jf (l := []) (by kernel_rfl) Jc) ls_k_cNu_9 (by decide) (czT 0 le_k_cNu_9 ZbJ) (fun _ _ hB => ZO 0 le_k_cNu_9 ZbJ (Nat.le_trans hB (by decide)) (Nat.le_trans hB (by decide))) (fun _ _ h => h) (Zel A125) (Jel A125)
theorem zfj (A125 : T_gs_TrimLeft) (h125 : FO ro 125 (jr A125)) : jbH sy Tryz.prog GT (ovD ro) ro (JbJ A125) 0 Tryz.f94.ntmps (za Tryz.f94) := Jf (l := [(Ja (za Tryz.f94) 0)]) (by kernel_rfl) (Zy (zem A125 h125) Jc)
theorem JeP (A125 : T_gs_TrimLeft) (a0 : Bt) (a1 : Int) (k : W → Prop) : fnT sy Tryz.prog GT (Zc3 A125) (JbJ A125) Tryz.f94.ntmps (za Tryz.f94) [none] Tryz.f94.results.toList [.s a0, .i .i64 a1] k = jdQ A125 a0 a1 (fun r0 => k (.i .i64 r0)) := by kernel_rfl
theorem jfj (A125 : T_gs_TrimLeft) (h125 : FO ro 125 (jr A125)) : FO ro 94 (zaI (jdQ A125)) := (Zq (rc := [none]) (f := 94) (fn := Tryz.f94) (c := za Tryz.f94) (nt := Tryz.f94.ntmps) (res := Tryz.f94.results.toList) (C := Zc3 A125) (L := (JbJ A125)) (fun _ _ => rfl) Tryz.func94 (by kernel_rfl) rfl rfl (jds A125 h125) (zfj A125 h125)).weak (by
 intro us k h
 unfold zaI at h
 split at h
 ·skip
  rename_i a0 a1
  rw [JeP A125 a0 a1 k]
  exact h
 ·exact h.elim)
def Zds (A81 : T_k_byteAt) (A86 : T_k_isSign) : jg sg := tab [(81, con [none, none] (zb A81)), (86, con [none] (js A86))]
theorem ZdQ (A81 : T_k_byteAt) (A86 : T_k_isSign) (h81 : FO ro 81 (zb A81)) (h86 : FO ro 86 (js A86)) (o0 : Nat → Prop) : zh sy Tryz.prog GT (ovD ro) o0 ro (Zds A81 A86) := (ja (Zb h81) (ja (Zb h86) jc)) o0
def Jk (A81 : T_k_byteAt) (A87 : T_c_IsDigit) : Nat → Int → Bt → Int → (Int → Bt → Int → Prop) → Prop
 | 0, _, _, _, _ => False
 | n + 1, x3, c0_0, c1_0, Ke => (A81 c0_0 c1_0 (fun y1 => (A87 y1 (fun y2 => ((y2 = true → (I64 (c1_0 + 1) ∧ Jk A81 A87 n x3 c0_0 (c1_0 + 1) Ke)) ∧ (y2 = false → Ke x3 c0_0 c1_0))))))
def Zcm (A81 : T_k_byteAt) (A87 : T_c_IsDigit) : jg sg := tab [(81, con [none, none] (zb A81)), (87, con [none] (jd A87))]
theorem Jcm (A81 : T_k_byteAt) (A87 : T_c_IsDigit) (h81 : FO ro 81 (zb A81)) (h87 : FO ro 87 (jd A87)) (o0 : Nat → Prop) : zh sy Tryz.prog GT (ovD ro) o0 ro (Zcm A81 A87) := (ja (Zb h81) (ja (Zb h87) jc)) o0
def ls_k_rNu_2_2 : LS sy (Unit × Unit × Int × Unit) (((Bt) × Unit) × (Int × Unit) × Unit) := ⟨[], Jb 0 (JL sy (.p 1 0)) (Jb 1 (JL sy (.p 0 0)) (Jb 3 (Ji sy .i64) (jz sy))), Zg 0 (Za (zw sy) (ZS sy)) (Zg 1 (Za (Ji sy .i64) (ZS sy)) (Zz sy)), 2, []⟩
def le_k_rNu_2_2 : LS sy (Unit × Unit × Int × Unit) (((Bt) × Unit) × (Int × Unit) × Unit) := ⟨[], Jb 0 (JL sy (.p 1 0)) (Jb 1 (JL sy (.p 0 0)) (Jb 3 (Ji sy .i64) (jz sy))), Zg 0 (Za (zw sy) (ZS sy)) (Zg 1 (Za (Ji sy .i64) (ZS sy)) (Zz sy)), 2, []⟩
def jaW : LS sy Unit Unit := ⟨[], jz sy, Zz sy, 2, []⟩
def Jao (A81 : T_k_byteAt) (A87 : T_c_IsDigit) (n : Nat) (x : (Unit × Unit × Int × Unit) × (((Bt) × Unit) × (Int × Unit) × Unit)) (K : Ex → Z sg → Prop) : Prop := Jk A81 A87 n x.1.2.2.1 x.2.1.1 x.2.2.1.1 (fun y0 y1 y2 => K (.exit 0) (le_k_rNu_2_2.put (((), (), y0, ()), ((y1, ()), (y2, ()), ()))))
def JdQ (A81 : T_k_byteAt) (A87 : T_c_IsDigit) (z : Z sg) (K : Ex → Z sg → Prop) : Prop := ls_k_rNu_2_2.get z (fun x => ∃ n, Jao A81 A87 n x K)
def ZaW (A81 : T_k_byteAt) (A87 : T_c_IsDigit) : zK sg := Zb8 [(2, JdQ A81 A87)]
theorem Jds (A81 : T_k_byteAt) (A87 : T_c_IsDigit) (n : Nat) (x : (Unit × Unit × Int × Unit) × (((Bt) × Unit) × (Int × Unit) × Unit)) (K : Ex → Z sg → Prop) : Jp (ls_k_rNu_2_2.put x) (fun z => sC sy Tryz.prog GT (Zcm A81 A87) (ZaW A81 A87) Tryz.f90.ntmps (Ja (za Tryz.f90) 0) z (rnd ls_k_rNu_2_2 (czT 0 le_k_rNu_2_2 jaW) (fun x => Jao A81 A87 n x K) K)) = Jao A81 A87 (n + 1) x K := by kernel_rfl
theorem zdt (A81 : T_k_byteAt) (A87 : T_c_IsDigit) (z : Z sg) (K : Ex → Z sg → Prop) : (ZaW A81 A87) (Ja (za Tryz.f90) 0) z K = ls_k_rNu_2_2.get z (fun x => ∃ n, Jao A81 A87 n x K) := by kernel_rfl
theorem jdt (A81 : T_k_byteAt) (A87 : T_c_IsDigit) (h81 : FO ro 81 (zb A81)) (h87 : FO ro 87 (jd A87)) : ∀ (o0 : Nat → Prop) (B : Bs sg), B.E.length ≤ 2 → ∀ z K, (ZaW A81 A87) (Ja (za Tryz.f90) 0) z K → Sx.Sem sy Tryz.prog GT (ovD ro) o0 ro Tryz.f90.ntmps B (.loop (Ja (za Tryz.f90) 0)) z K :=
 Jy (Jcm A81 A87 h81 h87) (Jf (l := []) (by kernel_rfl) Jc) ls_k_rNu_2_2 (by decide) (czT 0 le_k_rNu_2_2 jaW) (fun _ _ hB => ZO 0 le_k_rNu_2_2 jaW (Nat.le_trans hB (by decide)) (Nat.le_trans hB (by decide))) (fun _ _ h => h) (Jds A81 A87) (zdt A81 A87)
theorem jem (A81 : T_k_byteAt) (A87 : T_c_IsDigit) (h81 : FO ro 81 (zb A81)) (h87 : FO ro 87 (jd A87)) : jbH sy Tryz.prog GT (ovD ro) ro (ZaW A81 A87) 2 Tryz.f90.ntmps (za Tryz.f90) := Jf (l := [(Ja (za Tryz.f90) 0)]) (by kernel_rfl) (Zy (jdt A81 A87 h81 h87) Jc)
abbrev T_k_rNu := Bt → Int → (Int → Bool → Int → Prop) → Prop
def jaI (A : T_k_rNu) (us : List W) (k : W → Prop) : Prop := match us with
 | [.s a0, .i .i64 a1] => A a0 a1 (fun r0 r1 r2 => k (.t [.i .i64 r0, .b r1, .i .i64 r2]))
 | _ => False
theorem Zdt {A A2 : T_k_rNu} (h : FO ro 48 (jaI A)) (hA : ∀ a0 a1 K, A2 a0 a1 K → A a0 a1 K) : FO ro 48 (jaI A2) := h.weak (by
 intro us k h
 unfold jaI at h ⊢
 split at h
 ·exact hA _ _ _ h
 ·exact h.elim)
def zdR (A88 : T_k_fSt) (A81 : T_k_byteAt) (A91 : T_k_isExponentMark) (A92 : T_k_digitStarts) (A93 : T_k_wNu) (A94 : T_k_cNu) (A86 : T_k_isSign) (A87 : T_c_IsDigit) (a0 : Bt) (a1 : Int) (K : Int → Bool → Int → Prop) : Prop :=
 (A81 a0 a1 (fun y1 => (A81 a0 a1 (fun y2 => (A86 y2 (fun y3 => ((y3 = true → (I64 (a1 + 1) ∧ (∃ m, Jk A81 A87 m (a1 + 1) a0 (a1 + 1) (fun y4 y5 y6 => ((0 ≤ y4 ∧ y4 ≤ y6 ∧ y6 ≤ (y5.length : Int)) ∧ (A88 y5 y6 (fun y7 => ((y7 = true → (I64 (y6 + 1) ∧ (∃ m, Jk A81 A87 m (y6 + 1) y5 (y6 + 1) (fun y8 y9 y10 => ((0 ≤ y8 ∧ y8 ≤ y10 ∧ y10 ≤ (y9.length : Int)) ∧ (A81 y9 y10 (fun y11 => (A91 y11 (fun y12 => ((y12 = true → (I64 (y10 + 1) ∧ (A92 y9 (y10 + 1) (fun y13 => ((y13 = true → (I64 (y10 + 1) ∧ (A81 y9 (y10 + 1) (fun y14 => (A81 y9 (y10 + 1) (fun y15 => (A86 y15 (fun y16 => ((y16 = true → (I64 ((y10 + 1) + 1) ∧ (∃ m, Jk A81 A87 m ((y10 + 1) + 1) y9 ((y10 + 1) + 1) (fun y17 y18 y19 => ((0 ≤ y17 ∧ y17 ≤ y19 ∧ y19 ≤ (y18.length : Int)) ∧ (A93 ((y18.drop y17.toNat).take (y19.toNat - y17.toNat)) (fun y20 => (((decide (y14 = 45)) = true → (I64 (0 - y20) ∧ (((y5.drop y4.toNat).take (y6.toNat - y4.toNat)).length + ((y9.drop y8.toNat).take (y10.toNat - y8.toNat)).length ≤ 1099511627776 ∧ (I64 ((((y5.drop y4.toNat).take (y6.toNat - y4.toNat)).length : Int) + (0 - y20)) ∧ (I64 (((((y5.drop y4.toNat).take (y6.toNat - y4.toNat)).length : Int) + (0 - y20)) + 3) ∧ (A94 (((y5.drop y4.toNat).take (y6.toNat - y4.toNat)) ++ ((y9.drop y8.toNat).take (y10.toNat - y8.toNat))) (((((y5.drop y4.toNat).take (y6.toNat - y4.toNat)).length : Int) + (0 - y20)) + 3) (fun y21 => (((decide (y1 = 45)) = true → (I64 (0 - y21) ∧ K (0 - y21) false y19)) ∧ ((decide (y1 = 45)) = false → K y21 false y19))))))))) ∧ ((decide (y14 = 45)) = false → (((y5.drop y4.toNat).take (y6.toNat - y4.toNat)).length + ((y9.drop y8.toNat).take (y10.toNat - y8.toNat)).length ≤ 1099511627776 ∧ (I64 ((((y5.drop y4.toNat).take (y6.toNat - y4.toNat)).length : Int) + y20) ∧ (I64 (((((y5.drop y4.toNat).take (y6.toNat - y4.toNat)).length : Int) + y20) + (3 : Int)) ∧ (A94 (((y5.drop y4.toNat).take (y6.toNat - y4.toNat)) ++ ((y9.drop y8.toNat).take (y10.toNat - y8.toNat))) (((((y5.drop y4.toNat).take (y6.toNat - y4.toNat)).length : Int) + y20) + (3 : Int)) (fun y22 => (((decide (y1 = 45)) = true → (I64 (0 - y22) ∧ K (0 - y22) false y19)) ∧ ((decide (y1 = 45)) = false → K y22 false y19)))))))))))))))) ∧ (y16 = false → (∃ m, Jk A81 A87 m (y10 + 1) y9 (y10 + 1) (fun y23 y24 y25 => ((0 ≤ y23 ∧ y23 ≤ y25 ∧ y25 ≤ (y24.length : Int)) ∧ (A93 ((y24.drop y23.toNat).take (y25.toNat - y23.toNat)) (fun y26 => (((decide (y14 = 45)) = true → (I64 (0 - y26) ∧ (((y5.drop y4.toNat).take (y6.toNat - y4.toNat)).length + ((y9.drop y8.toNat).take (y10.toNat - y8.toNat)).length ≤ 1099511627776 ∧ (I64 ((((y5.drop y4.toNat).take (y6.toNat - y4.toNat)).length : Int) + (0 - y26)) ∧ (I64 (((((y5.drop y4.toNat).take (y6.toNat - y4.toNat)).length : Int) + (0 - y26)) + 3) ∧ (A94 (((y5.drop y4.toNat).take (y6.toNat - y4.toNat)) ++ ((y9.drop y8.toNat).take (y10.toNat - y8.toNat))) (((((y5.drop y4.toNat).take (y6.toNat - y4.toNat)).length : Int) + (0 - y26)) + 3) (fun y27 => (((decide (y1 = 45)) = true → (I64 (0 - y27) ∧ K (0 - y27) false y25)) ∧ ((decide (y1 = 45)) = false → K y27 false y25))))))))) ∧ ((decide (y14 = 45)) = false → (((y5.drop y4.toNat).take (y6.toNat - y4.toNat)).length + ((y9.drop y8.toNat).take (y10.toNat - y8.toNat)).length ≤ 1099511627776 ∧ (I64 ((((y5.drop y4.toNat).take (y6.toNat - y4.toNat)).length : Int) + y26) ∧ (I64 (((((y5.drop y4.toNat).take (y6.toNat - y4.toNat)).length : Int) + y26) + (3 : Int)) ∧ (A94 (((y5.drop y4.toNat).take (y6.toNat - y4.toNat)) ++ ((y9.drop y8.toNat).take (y10.toNat - y8.toNat))) (((((y5.drop y4.toNat).take (y6.toNat - y4.toNat)).length : Int) + y26) + (3 : Int)) (fun y28 => (((decide (y1 = 45)) = true → (I64 (0 - y28) ∧ K (0 - y28) false y25)) ∧ ((decide (y1 = 45)) = false → K y28 false y25)))))))))))))))))))))))) ∧ (y13 = false → (((y5.drop y4.toNat).take (y6.toNat - y4.toNat)).length + ((y9.drop y8.toNat).take (y10.toNat - y8.toNat)).length ≤ 1099511627776 ∧ (I64 ((((y5.drop y4.toNat).take (y6.toNat - y4.toNat)).length : Int) + (0 : Int)) ∧ (I64 (((((y5.drop y4.toNat).take (y6.toNat - y4.toNat)).length : Int) + (0 : Int)) + 3) ∧ (A94 (((y5.drop y4.toNat).take (y6.toNat - y4.toNat)) ++ ((y9.drop y8.toNat).take (y10.toNat - y8.toNat))) (((((y5.drop y4.toNat).take (y6.toNat - y4.toNat)).length : Int) + (0 : Int)) + 3) (fun y29 => (((decide (y1 = 45)) = true → (I64 (0 - y29) ∧ K (0 - y29) false y10)) ∧ ((decide (y1 = 45)) = false → K y29 false y10))))))))))))) ∧ (y12 = false → (((y5.drop y4.toNat).take (y6.toNat - y4.toNat)).length + ((y9.drop y8.toNat).take (y10.toNat - y8.toNat)).length ≤ 1099511627776 ∧ (I64 ((((y5.drop y4.toNat).take (y6.toNat - y4.toNat)).length : Int) + (0 : Int)) ∧ (I64 (((((y5.drop y4.toNat).take (y6.toNat - y4.toNat)).length : Int) + (0 : Int)) + 3) ∧ (A94 (((y5.drop y4.toNat).take (y6.toNat - y4.toNat)) ++ ((y9.drop y8.toNat).take (y10.toNat - y8.toNat))) (((((y5.drop y4.toNat).take (y6.toNat - y4.toNat)).length : Int) + (0 : Int)) + 3) (fun y30 => (((decide (y1 = 45)) = true → (I64 (0 - y30) ∧ K (0 - y30) false y10)) ∧ ((decide (y1 = 45)) = false → K y30 false y10)))))))))))))))))) ∧ (y7 = false → (A81 y5 y6 (fun y31 => (A91 y31 (fun y32 => ((y32 = true → (I64 (y6 + 1) ∧ (A92 y5 (y6 + 1) (fun y33 => ((y33 = true → (I64 (y6 + 1) ∧ (A81 y5 (y6 + 1) (fun y34 => (A81 y5 (y6 + 1) (fun y35 => (A86 y35 (fun y36 => ((y36 = true → (I64 ((y6 + 1) + 1) ∧ (∃ m, Jk A81 A87 m ((y6 + 1) + 1) y5 ((y6 + 1) + 1) (fun y37 y38 y39 => ((0 ≤ y37 ∧ y37 ≤ y39 ∧ y39 ≤ (y38.length : Int)) ∧ (A93 ((y38.drop y37.toNat).take (y39.toNat - y37.toNat)) (fun y40 => (((decide (y34 = 45)) = true → (I64 (0 - y40) ∧ (((y5.drop y4.toNat).take (y6.toNat - y4.toNat)).length + ([] : Bt).length ≤ 1099511627776 ∧ (I64 ((((y5.drop y4.toNat).take (y6.toNat - y4.toNat)).length : Int) + (0 - y40)) ∧ (I64 (((((y5.drop y4.toNat).take (y6.toNat - y4.toNat)).length : Int) + (0 - y40)) + 3) ∧ (A94 (((y5.drop y4.toNat).take (y6.toNat - y4.toNat)) ++ ([] : Bt)) (((((y5.drop y4.toNat).take (y6.toNat - y4.toNat)).length : Int) + (0 - y40)) + 3) (fun y41 => (((decide (y1 = 45)) = true → (I64 (0 - y41) ∧ K (0 - y41) false y39)) ∧ ((decide (y1 = 45)) = false → K y41 false y39))))))))) ∧ ((decide (y34 = 45)) = false → (((y5.drop y4.toNat).take (y6.toNat - y4.toNat)).length + ([] : Bt).length ≤ 1099511627776 ∧ (I64 ((((y5.drop y4.toNat).take (y6.toNat - y4.toNat)).length : Int) + y40) ∧ (I64 (((((y5.drop y4.toNat).take (y6.toNat - y4.toNat)).length : Int) + y40) + (3 : Int)) ∧ (A94 (((y5.drop y4.toNat).take (y6.toNat - y4.toNat)) ++ ([] : Bt)) (((((y5.drop y4.toNat).take (y6.toNat - y4.toNat)).length : Int) + y40) + (3 : Int)) (fun y42 => (((decide (y1 = 45)) = true → (I64 (0 - y42) ∧ K (0 - y42) false y39)) ∧ ((decide (y1 = 45)) = false → K y42 false y39)))))))))))))))) ∧ (y36 = false → (∃ m, Jk A81 A87 m (y6 + 1) y5 (y6 + 1) (fun y43 y44 y45 => ((0 ≤ y43 ∧ y43 ≤ y45 ∧ y45 ≤ (y44.length : Int)) ∧ (A93 ((y44.drop y43.toNat).take (y45.toNat - y43.toNat)) (fun y46 => (((decide (y34 = 45)) = true → (I64 (0 - y46) ∧ (((y5.drop y4.toNat).take (y6.toNat - y4.toNat)).length + ([] : Bt).length ≤ 1099511627776 ∧ (I64 ((((y5.drop y4.toNat).take (y6.toNat - y4.toNat)).length : Int) + (0 - y46)) ∧ (I64 (((((y5.drop y4.toNat).take (y6.toNat - y4.toNat)).length : Int) + (0 - y46)) + 3) ∧ (A94 (((y5.drop y4.toNat).take (y6.toNat - y4.toNat)) ++ ([] : Bt)) (((((y5.drop y4.toNat).take (y6.toNat - y4.toNat)).length : Int) + (0 - y46)) + 3) (fun y47 => (((decide (y1 = 45)) = true → (I64 (0 - y47) ∧ K (0 - y47) false y45)) ∧ ((decide (y1 = 45)) = false → K y47 false y45))))))))) ∧ ((decide (y34 = 45)) = false → (((y5.drop y4.toNat).take (y6.toNat - y4.toNat)).length + ([] : Bt).length ≤ 1099511627776 ∧ (I64 ((((y5.drop y4.toNat).take (y6.toNat - y4.toNat)).length : Int) + y46) ∧ (I64 (((((y5.drop y4.toNat).take (y6.toNat - y4.toNat)).length : Int) + y46) + (3 : Int)) ∧ (A94 (((y5.drop y4.toNat).take (y6.toNat - y4.toNat)) ++ ([] : Bt)) (((((y5.drop y4.toNat).take (y6.toNat - y4.toNat)).length : Int) + y46) + (3 : Int)) (fun y48 => (((decide (y1 = 45)) = true → (I64 (0 - y48) ∧ K (0 - y48) false y45)) ∧ ((decide (y1 = 45)) = false → K y48 false y45)))))))))))))))))))))))) ∧ (y33 = false → (((y5.drop y4.toNat).take (y6.toNat - y4.toNat)).length + ([] : Bt).length ≤ 1099511627776 ∧ (I64 ((((y5.drop y4.toNat).take (y6.toNat - y4.toNat)).length : Int) + (0 : Int)) ∧ (I64 (((((y5.drop y4.toNat).take (y6.toNat - y4.toNat)).length : Int) + (0 : Int)) + 3) ∧ (A94 (((y5.drop y4.toNat).take (y6.toNat - y4.toNat)) ++ ([] : Bt)) (((((y5.drop y4.toNat).take (y6.toNat - y4.toNat)).length : Int) + (0 : Int)) + 3) (fun y49 => (((decide (y1 = 45)) = true → (I64 (0 - y49) ∧ K (0 - y49) true y6)) ∧ ((decide (y1 = 45)) = false → K y49 true y6))))))))))))) ∧ (y32 = false → (((y5.drop y4.toNat).take (y6.toNat - y4.toNat)).length + ([] : Bt).length ≤ 1099511627776 ∧ (I64 ((((y5.drop y4.toNat).take (y6.toNat - y4.toNat)).length : Int) + (0 : Int)) ∧ (I64 (((((y5.drop y4.toNat).take (y6.toNat - y4.toNat)).length : Int) + (0 : Int)) + 3) ∧ (A94 (((y5.drop y4.toNat).take (y6.toNat - y4.toNat)) ++ ([] : Bt)) (((((y5.drop y4.toNat).take (y6.toNat - y4.toNat)).length : Int) + (0 : Int)) + 3) (fun y50 => (((decide (y1 = 45)) = true → (I64 (0 - y50) ∧ K (0 - y50) true y6)) ∧ ((decide (y1 = 45)) = false → K y50 true y6)))))))))))))))))))))) ∧ (y3 = false → (∃ m, Jk A81 A87 m a1 a0 a1 (fun y51 y52 y53 => ((0 ≤ y51 ∧ y51 ≤ y53 ∧ y53 ≤ (y52.length : Int)) ∧ (A88 y52 y53 (fun y54 => ((y54 = true → (I64 (y53 + 1) ∧ (∃ m, Jk A81 A87 m (y53 + 1) y52 (y53 + 1) (fun y55 y56 y57 => ((0 ≤ y55 ∧ y55 ≤ y57 ∧ y57 ≤ (y56.length : Int)) ∧ (A81 y56 y57 (fun y58 => (A91 y58 (fun y59 => ((y59 = true → (I64 (y57 + 1) ∧ (A92 y56 (y57 + 1) (fun y60 => ((y60 = true → (I64 (y57 + 1) ∧ (A81 y56 (y57 + 1) (fun y61 => (A81 y56 (y57 + 1) (fun y62 => (A86 y62 (fun y63 => ((y63 = true → (I64 ((y57 + 1) + 1) ∧ (∃ m, Jk A81 A87 m ((y57 + 1) + 1) y56 ((y57 + 1) + 1) (fun y64 y65 y66 => ((0 ≤ y64 ∧ y64 ≤ y66 ∧ y66 ≤ (y65.length : Int)) ∧ (A93 ((y65.drop y64.toNat).take (y66.toNat - y64.toNat)) (fun y67 => (((decide (y61 = 45)) = true → (I64 (0 - y67) ∧ (((y52.drop y51.toNat).take (y53.toNat - y51.toNat)).length + ((y56.drop y55.toNat).take (y57.toNat - y55.toNat)).length ≤ 1099511627776 ∧ (I64 ((((y52.drop y51.toNat).take (y53.toNat - y51.toNat)).length : Int) + (0 - y67)) ∧ (I64 (((((y52.drop y51.toNat).take (y53.toNat - y51.toNat)).length : Int) + (0 - y67)) + 3) ∧ (A94 (((y52.drop y51.toNat).take (y53.toNat - y51.toNat)) ++ ((y56.drop y55.toNat).take (y57.toNat - y55.toNat))) (((((y52.drop y51.toNat).take (y53.toNat - y51.toNat)).length : Int) + (0 - y67)) + 3) (fun y68 => (((decide (y1 = 45)) = true → (I64 (0 - y68) ∧ K (0 - y68) false y66)) ∧ ((decide (y1 = 45)) = false → K y68 false y66))))))))) ∧ ((decide (y61 = 45)) = false → (((y52.drop y51.toNat).take (y53.toNat - y51.toNat)).length + ((y56.drop y55.toNat).take (y57.toNat - y55.toNat)).length ≤ 1099511627776 ∧ (I64 ((((y52.drop y51.toNat).take (y53.toNat - y51.toNat)).length : Int) + y67) ∧ (I64 (((((y52.drop y51.toNat).take (y53.toNat - y51.toNat)).length : Int) + y67) + (3 : Int)) ∧ (A94 (((y52.drop y51.toNat).take (y53.toNat - y51.toNat)) ++ ((y56.drop y55.toNat).take (y57.toNat - y55.toNat))) (((((y52.drop y51.toNat).take (y53.toNat - y51.toNat)).length : Int) + y67) + (3 : Int)) (fun y69 => (((decide (y1 = 45)) = true → (I64 (0 - y69) ∧ K (0 - y69) false y66)) ∧ ((decide (y1 = 45)) = false → K y69 false y66)))))))))))))))) ∧ (y63 = false → (∃ m, Jk A81 A87 m (y57 + 1) y56 (y57 + 1) (fun y70 y71 y72 => ((0 ≤ y70 ∧ y70 ≤ y72 ∧ y72 ≤ (y71.length : Int)) ∧ (A93 ((y71.drop y70.toNat).take (y72.toNat - y70.toNat)) (fun y73 => (((decide (y61 = 45)) = true → (I64 (0 - y73) ∧ (((y52.drop y51.toNat).take (y53.toNat - y51.toNat)).length + ((y56.drop y55.toNat).take (y57.toNat - y55.toNat)).length ≤ 1099511627776 ∧ (I64 ((((y52.drop y51.toNat).take (y53.toNat - y51.toNat)).length : Int) + (0 - y73)) ∧ (I64 (((((y52.drop y51.toNat).take (y53.toNat - y51.toNat)).length : Int) + (0 - y73)) + 3) ∧ (A94 (((y52.drop y51.toNat).take (y53.toNat - y51.toNat)) ++ ((y56.drop y55.toNat).take (y57.toNat - y55.toNat))) (((((y52.drop y51.toNat).take (y53.toNat - y51.toNat)).length : Int) + (0 - y73)) + 3) (fun y74 => (((decide (y1 = 45)) = true → (I64 (0 - y74) ∧ K (0 - y74) false y72)) ∧ ((decide (y1 = 45)) = false → K y74 false y72))))))))) ∧ ((decide (y61 = 45)) = false → (((y52.drop y51.toNat).take (y53.toNat - y51.toNat)).length + ((y56.drop y55.toNat).take (y57.toNat - y55.toNat)).length ≤ 1099511627776 ∧ (I64 ((((y52.drop y51.toNat).take (y53.toNat - y51.toNat)).length : Int) + y73) ∧ (I64 (((((y52.drop y51.toNat).take (y53.toNat - y51.toNat)).length : Int) + y73) + (3 : Int)) ∧ (A94 (((y52.drop y51.toNat).take (y53.toNat - y51.toNat)) ++ ((y56.drop y55.toNat).take (y57.toNat - y55.toNat))) (((((y52.drop y51.toNat).take (y53.toNat - y51.toNat)).length : Int) + y73) + (3 : Int)) (fun y75 => (((decide (y1 = 45)) = true → (I64 (0 - y75) ∧ K (0 - y75) false y72)) ∧ ((decide (y1 = 45)) = false → K y75 false y72)))))))))))))))))))))))) ∧ (y60 = false → (((y52.drop y51.toNat).take (y53.toNat - y51.toNat)).length + ((y56.drop y55.toNat).take (y57.toNat - y55.toNat)).length ≤ 1099511627776 ∧ (I64 ((((y52.drop y51.toNat).take (y53.toNat - y51.toNat)).length : Int) + (0 : Int)) ∧ (I64 (((((y52.drop y51.toNat).take (y53.toNat - y51.toNat)).length : Int) + (0 : Int)) + 3) ∧ (A94 (((y52.drop y51.toNat).take (y53.toNat - y51.toNat)) ++ ((y56.drop y55.toNat).take (y57.toNat - y55.toNat))) (((((y52.drop y51.toNat).take (y53.toNat - y51.toNat)).length : Int) + (0 : Int)) + 3) (fun y76 => (((decide (y1 = 45)) = true → (I64 (0 - y76) ∧ K (0 - y76) false y57)) ∧ ((decide (y1 = 45)) = false → K y76 false y57))))))))))))) ∧ (y59 = false → (((y52.drop y51.toNat).take (y53.toNat - y51.toNat)).length + ((y56.drop y55.toNat).take (y57.toNat - y55.toNat)).length ≤ 1099511627776 ∧ (I64 ((((y52.drop y51.toNat).take (y53.toNat - y51.toNat)).length : Int) + (0 : Int)) ∧ (I64 (((((y52.drop y51.toNat).take (y53.toNat - y51.toNat)).length : Int) + (0 : Int)) + 3) ∧ (A94 (((y52.drop y51.toNat).take (y53.toNat - y51.toNat)) ++ ((y56.drop y55.toNat).take (y57.toNat - y55.toNat))) (((((y52.drop y51.toNat).take (y53.toNat - y51.toNat)).length : Int) + (0 : Int)) + 3) (fun y77 => (((decide (y1 = 45)) = true → (I64 (0 - y77) ∧ K (0 - y77) false y57)) ∧ ((decide (y1 = 45)) = false → K y77 false y57)))))))))))))))))) ∧ (y54 = false → (A81 y52 y53 (fun y78 => (A91 y78 (fun y79 => ((y79 = true → (I64 (y53 + 1) ∧ (A92 y52 (y53 + 1) (fun y80 => ((y80 = true → (I64 (y53 + 1) ∧ (A81 y52 (y53 + 1) (fun y81 => (A81 y52 (y53 + 1) (fun y82 => (A86 y82 (fun y83 => ((y83 = true → (I64 ((y53 + 1) + 1) ∧ (∃ m, Jk A81 A87 m ((y53 + 1) + 1) y52 ((y53 + 1) + 1) (fun y84 y85 y86 => ((0 ≤ y84 ∧ y84 ≤ y86 ∧ y86 ≤ (y85.length : Int)) ∧ (A93 ((y85.drop y84.toNat).take (y86.toNat - y84.toNat)) (fun y87 => (((decide (y81 = 45)) = true → (I64 (0 - y87) ∧ (((y52.drop y51.toNat).take (y53.toNat - y51.toNat)).length + ([] : Bt).length ≤ 1099511627776 ∧ (I64 ((((y52.drop y51.toNat).take (y53.toNat - y51.toNat)).length : Int) + (0 - y87)) ∧ (I64 (((((y52.drop y51.toNat).take (y53.toNat - y51.toNat)).length : Int) + (0 - y87)) + 3) ∧ (A94 (((y52.drop y51.toNat).take (y53.toNat - y51.toNat)) ++ ([] : Bt)) (((((y52.drop y51.toNat).take (y53.toNat - y51.toNat)).length : Int) + (0 - y87)) + 3) (fun y88 => (((decide (y1 = 45)) = true → (I64 (0 - y88) ∧ K (0 - y88) false y86)) ∧ ((decide (y1 = 45)) = false → K y88 false y86))))))))) ∧ ((decide (y81 = 45)) = false → (((y52.drop y51.toNat).take (y53.toNat - y51.toNat)).length + ([] : Bt).length ≤ 1099511627776 ∧ (I64 ((((y52.drop y51.toNat).take (y53.toNat - y51.toNat)).length : Int) + y87) ∧ (I64 (((((y52.drop y51.toNat).take (y53.toNat - y51.toNat)).length : Int) + y87) + (3 : Int)) ∧ (A94 (((y52.drop y51.toNat).take (y53.toNat - y51.toNat)) ++ ([] : Bt)) (((((y52.drop y51.toNat).take (y53.toNat - y51.toNat)).length : Int) + y87) + (3 : Int)) (fun y89 => (((decide (y1 = 45)) = true → (I64 (0 - y89) ∧ K (0 - y89) false y86)) ∧ ((decide (y1 = 45)) = false → K y89 false y86)))))))))))))))) ∧ (y83 = false → (∃ m, Jk A81 A87 m (y53 + 1) y52 (y53 + 1) (fun y90 y91 y92 => ((0 ≤ y90 ∧ y90 ≤ y92 ∧ y92 ≤ (y91.length : Int)) ∧ (A93 ((y91.drop y90.toNat).take (y92.toNat - y90.toNat)) (fun y93 => (((decide (y81 = 45)) = true → (I64 (0 - y93) ∧ (((y52.drop y51.toNat).take (y53.toNat - y51.toNat)).length + ([] : Bt).length ≤ 1099511627776 ∧ (I64 ((((y52.drop y51.toNat).take (y53.toNat - y51.toNat)).length : Int) + (0 - y93)) ∧ (I64 (((((y52.drop y51.toNat).take (y53.toNat - y51.toNat)).length : Int) + (0 - y93)) + 3) ∧ (A94 (((y52.drop y51.toNat).take (y53.toNat - y51.toNat)) ++ ([] : Bt)) (((((y52.drop y51.toNat).take (y53.toNat - y51.toNat)).length : Int) + (0 - y93)) + 3) (fun y94 => (((decide (y1 = 45)) = true → (I64 (0 - y94) ∧ K (0 - y94) false y92)) ∧ ((decide (y1 = 45)) = false → K y94 false y92))))))))) ∧ ((decide (y81 = 45)) = false → (((y52.drop y51.toNat).take (y53.toNat - y51.toNat)).length + ([] : Bt).length ≤ 1099511627776 ∧ (I64 ((((y52.drop y51.toNat).take (y53.toNat - y51.toNat)).length : Int) + y93) ∧ (I64 (((((y52.drop y51.toNat).take (y53.toNat - y51.toNat)).length : Int) + y93) + (3 : Int)) ∧ (A94 (((y52.drop y51.toNat).take (y53.toNat - y51.toNat)) ++ ([] : Bt)) (((((y52.drop y51.toNat).take (y53.toNat - y51.toNat)).length : Int) + y93) + (3 : Int)) (fun y95 => (((decide (y1 = 45)) = true → (I64 (0 - y95) ∧ K (0 - y95) false y92)) ∧ ((decide (y1 = 45)) = false → K y95 false y92)))))))))))))))))))))))) ∧ (y80 = false → (((y52.drop y51.toNat).take (y53.toNat - y51.toNat)).length + ([] : Bt).length ≤ 1099511627776 ∧ (I64 ((((y52.drop y51.toNat).take (y53.toNat - y51.toNat)).length : Int) + (0 : Int)) ∧ (I64 (((((y52.drop y51.toNat).take (y53.toNat - y51.toNat)).length : Int) + (0 : Int)) + 3) ∧ (A94 (((y52.drop y51.toNat).take (y53.toNat - y51.toNat)) ++ ([] : Bt)) (((((y52.drop y51.toNat).take (y53.toNat - y51.toNat)).length : Int) + (0 : Int)) + 3) (fun y96 => (((decide (y1 = 45)) = true → (I64 (0 - y96) ∧ K (0 - y96) true y53)) ∧ ((decide (y1 = 45)) = false → K y96 true y53))))))))))))) ∧ (y79 = false → (((y52.drop y51.toNat).take (y53.toNat - y51.toNat)).length + ([] : Bt).length ≤ 1099511627776 ∧ (I64 ((((y52.drop y51.toNat).take (y53.toNat - y51.toNat)).length : Int) + (0 : Int)) ∧ (I64 (((((y52.drop y51.toNat).take (y53.toNat - y51.toNat)).length : Int) + (0 : Int)) + 3) ∧ (A94 (((y52.drop y51.toNat).take (y53.toNat - y51.toNat)) ++ ([] : Bt)) (((((y52.drop y51.toNat).take (y53.toNat - y51.toNat)).length : Int) + (0 : Int)) + 3) (fun y97 => (((decide (y1 = 45)) = true → (I64 (0 - y97) ∧ K (0 - y97) true y53)) ∧ ((decide (y1 = 45)) = false → K y97 true y53))))))))))))))))))))))))))))
def jdR (A88 : T_k_fSt) (A81 : T_k_byteAt) (A91 : T_k_isExponentMark) (A92 : T_k_digitStarts) (A93 : T_k_wNu) (A94 : T_k_cNu) (A86 : T_k_isSign) (A87 : T_c_IsDigit) : jg sg := tab [(88, con [none, none] (Jad A88)), (81, con [none, none] (zb A81)), (91, con [none] (Zl A91)), (92, con [none, none] (zr A92)), (93, con [none] (JaG A93)), (94, con [none, none] (zaI A94)), (89, inl sy Tryz.prog GT (Zds A81 A86) noL 1000 Tryz.f89.ntmps (za Tryz.f89) Tryz.f89.results.toList), (90, inl sy Tryz.prog GT (Zcm A81 A87) (ZaW A81 A87) 2 Tryz.f90.ntmps (za Tryz.f90) Tryz.f90.results.toList)]
theorem zeQ (A88 : T_k_fSt) (A81 : T_k_byteAt) (A91 : T_k_isExponentMark) (A92 : T_k_digitStarts) (A93 : T_k_wNu) (A94 : T_k_cNu) (A86 : T_k_isSign) (A87 : T_c_IsDigit) (h88 : FO ro 88 (Jad A88)) (h81 : FO ro 81 (zb A81)) (h91 : FO ro 91 (Zl A91)) (h92 : FO ro 92 (zr A92)) (h93 : FO ro 93 (JaG A93)) (h94 : FO ro 94 (zaI A94)) (h86 : FO ro 86 (js A86)) (h87 : FO ro 87 (jd A87)) (o0 : Nat → Prop) : zh sy Tryz.prog GT (ovD ro) o0 ro (jdR A88 A81 A91 A92 A93 A94 A86 A87) := (ja (Zb h88) (ja (Zb h81) (ja (Zb h91) (ja (Zb h92) (ja (Zb h93) (ja (Zb h94) (ja (Jbf (f := 89) (fn := Tryz.f89) (fun _ _ => rfl) Tryz.func89 (by kernel_rfl) rfl rfl (ZdQ A81 A86 h81 h86) (Jf (l := []) (by kernel_rfl) Jc)) (ja (Jbf (f := 90) (fn := Tryz.f90) (fun _ _ => rfl) Tryz.func90 (by kernel_rfl) rfl rfl (Jcm A81 A87 h81 h87) (jem A81 A87 h81 h87)) jc)))))))) o0
theorem jeQ (A88 : T_k_fSt) (A81 : T_k_byteAt) (A91 : T_k_isExponentMark) (A92 : T_k_digitStarts) (A93 : T_k_wNu) (A94 : T_k_cNu) (A86 : T_k_isSign) (A87 : T_c_IsDigit) (a0 : Bt) (a1 : Int) (k : W → Prop) : fnT sy Tryz.prog GT (jdR A88 A81 A91 A92 A93 A94 A86 A87) noL Tryz.f48.ntmps (za Tryz.f48) [none, none, none] Tryz.f48.results.toList [.s a0, .i .i64 a1] k = zdR A88 A81 A91 A92 A93 A94 A86 A87 a0 a1 (fun r0 r1 r2 => k (.t [.i .i64 r0, .b r1, .i .i64 r2])) := by kernel_rfl
theorem Zfj (A88 : T_k_fSt) (A81 : T_k_byteAt) (A91 : T_k_isExponentMark) (A92 : T_k_digitStarts) (A93 : T_k_wNu) (A94 : T_k_cNu) (A86 : T_k_isSign) (A87 : T_c_IsDigit) (h88 : FO ro 88 (Jad A88)) (h81 : FO ro 81 (zb A81)) (h91 : FO ro 91 (Zl A91)) (h92 : FO ro 92 (zr A92)) (h93 : FO ro 93 (JaG A93)) (h94 : FO ro 94 (zaI A94)) (h86 : FO ro 86 (js A86)) (h87 : FO ro 87 (jd A87)) : FO ro 48 (jaI (zdR A88 A81 A91 A92 A93 A94 A86 A87)) := (Zq (rc := [none, none, none]) (f := 48) (fn := Tryz.f48) (c := za Tryz.f48) (nt := Tryz.f48.ntmps) (res := Tryz.f48.results.toList) (C := jdR A88 A81 A91 A92 A93 A94 A86 A87) (L := noL) (fun _ _ => rfl) Tryz.func48 (by kernel_rfl) rfl rfl (zeQ A88 A81 A91 A92 A93 A94 A86 A87 h88 h81 h91 h92 h93 h94 h86 h87) (Jf (l := []) (by kernel_rfl) Jc)).weak (by
 intro us k h
 unfold jaI at h
 split at h
 ·skip
  rename_i a0 a1
  rw [jeQ A88 A81 A91 A92 A93 A94 A86 A87 a0 a1 k]
  exact h
 ·exact h.elim)
abbrev T_c_IsLetter := Int → (Bool → Prop) → Prop
def jB (A : T_c_IsLetter) (us : List W) (k : W → Prop) : Prop := match us with
 | [.i .u8 a0] => A a0 (fun r0 => k (.b r0))
 | _ => False
theorem zbK {A A2 : T_c_IsLetter} (h : FO ro 122 (jB A)) (hA : ∀ a0 K, A2 a0 K → A a0 K) : FO ro 122 (jB A2) := h.weak (by
 intro us k h
 unfold jB at h ⊢
 split at h
 ·exact hA _ _ h
 ·exact h.elim)
def zap (a0 : Int) (K : Bool → Prop) : Prop :=
 (((decide ((97 : Int) ≤ a0)) = true → (((decide (a0 ≤ 122)) = false → (((decide ((65 : Int) ≤ a0)) = true → K (decide (a0 ≤ 90))) ∧ ((decide ((65 : Int) ≤ a0)) = false → K false))) ∧ ((decide (a0 ≤ 122)) = true → K true))) ∧ ((decide ((97 : Int) ≤ a0)) = false → (((decide ((65 : Int) ≤ a0)) = true → K (decide (a0 ≤ 90))) ∧ ((decide ((65 : Int) ≤ a0)) = false → K false))))
def JaW : jg sg := tab []
theorem ZcE (o0 : Nat → Prop) : zh sy Tryz.prog GT (ovD ro) o0 ro (JaW) := jc o0
theorem JcE (a0 : Int) (k : W → Prop) : fnT sy Tryz.prog GT (JaW) noL Tryz.f122.ntmps (za Tryz.f122) [none] Tryz.f122.results.toList [.i .u8 a0] k = zap a0 (fun r0 => k (.b r0)) := by kernel_rfl
theorem Jc3 : FO ro 122 (jB (zap)) := (Zq (rc := [none]) (f := 122) (fn := Tryz.f122) (c := za Tryz.f122) (nt := Tryz.f122.ntmps) (res := Tryz.f122.results.toList) (C := JaW) (L := noL) (fun _ _ => rfl) Tryz.func122 (by kernel_rfl) rfl rfl (ZcE) (Jf (l := []) (by kernel_rfl) Jc)).weak (by
 intro us k h
 unfold jB at h
 split at h
 ·skip
  rename_i a0
  rw [JcE a0 k]
  exact h
 ·exact h.elim)
abbrev T_c_StartsName := Int → (Bool → Prop) → Prop
def Zi (A : T_c_StartsName) (us : List W) (k : W → Prop) : Prop := match us with
 | [.i .u8 a0] => A a0 (fun r0 => k (.b r0))
 | _ => False
theorem zbm {A A2 : T_c_StartsName} (h : FO ro 82 (Zi A)) (hA : ∀ a0 K, A2 a0 K → A a0 K) : FO ro 82 (Zi A2) := h.weak (by
 intro us k h
 unfold Zi at h ⊢
 split at h
 ·exact hA _ _ h
 ·exact h.elim)
def zab (A122 : T_c_IsLetter) (a0 : Int) (K : Bool → Prop) : Prop :=
 (A122 a0 (fun y1 => ((y1 = false → (((decide (a0 = 95)) = false → K (decide ((128 : Int) ≤ a0))) ∧ ((decide (a0 = 95)) = true → K true))) ∧ (y1 = true → K true))))
def Jas (A122 : T_c_IsLetter) : jg sg := tab [(122, con [none] (jB A122))]
theorem Zb0 (A122 : T_c_IsLetter) (h122 : FO ro 122 (jB A122)) (o0 : Nat → Prop) : zh sy Tryz.prog GT (ovD ro) o0 ro (Jas A122) := (ja (Zb h122) jc) o0
theorem Jb0 (A122 : T_c_IsLetter) (a0 : Int) (k : W → Prop) : fnT sy Tryz.prog GT (Jas A122) noL Tryz.f82.ntmps (za Tryz.f82) [none] Tryz.f82.results.toList [.i .u8 a0] k = zab A122 a0 (fun r0 => k (.b r0)) := by kernel_rfl
theorem zcn (A122 : T_c_IsLetter) (h122 : FO ro 122 (jB A122)) : FO ro 82 (Zi (zab A122)) := (Zq (rc := [none]) (f := 82) (fn := Tryz.f82) (c := za Tryz.f82) (nt := Tryz.f82.ntmps) (res := Tryz.f82.results.toList) (C := Jas A122) (L := noL) (fun _ _ => rfl) Tryz.func82 (by kernel_rfl) rfl rfl (Zb0 A122 h122) (Jf (l := []) (by kernel_rfl) Jc)).weak (by
 intro us k h
 unfold Zi at h
 split at h
 ·skip
  rename_i a0
  rw [Jb0 A122 a0 k]
  exact h
 ·exact h.elim)
abbrev T_k_eSt := Bt → Int → (Bool → Prop) → Prop
def jA (A : T_k_eSt) (us : List W) (k : W → Prop) : Prop := match us with
 | [.s a0, .i .i64 a1] => A a0 a1 (fun r0 => k (.b r0))
 | _ => False
theorem Jdt {A A2 : T_k_eSt} (h : FO ro 83 (jA A)) (hA : ∀ a0 a1 K, A2 a0 a1 K → A a0 a1 K) : FO ro 83 (jA A2) := h.weak (by
 intro us k h
 unfold jA at h ⊢
 split at h
 ·exact hA _ _ _ h
 ·exact h.elim)
def zc4 (A81 : T_k_byteAt) (a0 : Bt) (a1 : Int) (K : Bool → Prop) : Prop :=
 (A81 a0 a1 (fun y1 => (((decide (y1 = 92)) = true → (I64 (a1 + 1) ∧ (A81 a0 (a1 + 1) (fun y2 => K (decide (y2 ≠ 10)))))) ∧ ((decide (y1 = 92)) = false → K false))))
def ZdR (A81 : T_k_byteAt) : jg sg := tab [(81, con [none, none] (zb A81))]
theorem ZeQ (A81 : T_k_byteAt) (h81 : FO ro 81 (zb A81)) (o0 : Nat → Prop) : zh sy Tryz.prog GT (ovD ro) o0 ro (ZdR A81) := (ja (Zb h81) jc) o0
theorem JeQ (A81 : T_k_byteAt) (a0 : Bt) (a1 : Int) (k : W → Prop) : fnT sy Tryz.prog GT (ZdR A81) noL Tryz.f83.ntmps (za Tryz.f83) [none] Tryz.f83.results.toList [.s a0, .i .i64 a1] k = zc4 A81 a0 a1 (fun r0 => k (.b r0)) := by kernel_rfl
theorem Jfj (A81 : T_k_byteAt) (h81 : FO ro 81 (zb A81)) : FO ro 83 (jA (zc4 A81)) := (Zq (rc := [none]) (f := 83) (fn := Tryz.f83) (c := za Tryz.f83) (nt := Tryz.f83.ntmps) (res := Tryz.f83.results.toList) (C := ZdR A81) (L := noL) (fun _ _ => rfl) Tryz.func83 (by kernel_rfl) rfl rfl (ZeQ A81 h81) (Jf (l := []) (by kernel_rfl) Jc)).weak (by
 intro us k h
 unfold jA at h
 split at h
 ·skip
  rename_i a0 a1
  rw [JeQ A81 a0 a1 k]
  exact h
 ·exact h.elim)
abbrev T_k_nameStarts := Bt → Int → (Bool → Prop) → Prop
def Zm (A : T_k_nameStarts) (us : List W) (k : W → Prop) : Prop := match us with
 | [.s a0, .i .i64 a1] => A a0 a1 (fun r0 => k (.b r0))
 | _ => False
theorem jbm {A A2 : T_k_nameStarts} (h : FO ro 45 (Zm A)) (hA : ∀ a0 a1 K, A2 a0 a1 K → A a0 a1 K) : FO ro 45 (Zm A2) := h.weak (by
 intro us k h
 unfold Zm at h ⊢
 split at h
 ·exact hA _ _ _ h
 ·exact h.elim)
def jab (A81 : T_k_byteAt) (A82 : T_c_StartsName) (A83 : T_k_eSt) (a0 : Bt) (a1 : Int) (K : Bool → Prop) : Prop :=
 (A81 a0 a1 (fun y1 => (((decide (y1 ≠ 45)) = true → (A81 a0 a1 (fun y2 => (A82 y2 (fun y3 => ((y3 = false → (A83 a0 a1 (fun y4 => K y4))) ∧ (y3 = true → K true))))))) ∧ ((decide (y1 ≠ 45)) = false → (I64 (a1 + 1) ∧ (A81 a0 (a1 + 1) (fun y5 => (A82 y5 (fun y6 => ((y6 = false → (((decide (y5 = 45)) = false → (I64 (a1 + 1) ∧ (A83 a0 (a1 + 1) (fun y7 => K y7)))) ∧ ((decide (y5 = 45)) = true → K true))) ∧ (y6 = true → K true)))))))))))
def zat (A81 : T_k_byteAt) (A82 : T_c_StartsName) (A83 : T_k_eSt) : jg sg := tab [(81, con [none, none] (zb A81)), (82, con [none] (Zi A82)), (83, con [none, none] (jA A83))]
theorem zb1 (A81 : T_k_byteAt) (A82 : T_c_StartsName) (A83 : T_k_eSt) (h81 : FO ro 81 (zb A81)) (h82 : FO ro 82 (Zi A82)) (h83 : FO ro 83 (jA A83)) (o0 : Nat → Prop) : zh sy Tryz.prog GT (ovD ro) o0 ro (zat A81 A82 A83) := (ja (Zb h81) (ja (Zb h82) (ja (Zb h83) jc))) o0
theorem jb1 (A81 : T_k_byteAt) (A82 : T_c_StartsName) (A83 : T_k_eSt) (a0 : Bt) (a1 : Int) (k : W → Prop) : fnT sy Tryz.prog GT (zat A81 A82 A83) noL Tryz.f45.ntmps (za Tryz.f45) [none] Tryz.f45.results.toList [.s a0, .i .i64 a1] k = jab A81 A82 A83 a0 a1 (fun r0 => k (.b r0)) := by kernel_rfl
theorem jcn (A81 : T_k_byteAt) (A82 : T_c_StartsName) (A83 : T_k_eSt) (h81 : FO ro 81 (zb A81)) (h82 : FO ro 82 (Zi A82)) (h83 : FO ro 83 (jA A83)) : FO ro 45 (Zm (jab A81 A82 A83)) := (Zq (rc := [none]) (f := 45) (fn := Tryz.f45) (c := za Tryz.f45) (nt := Tryz.f45.ntmps) (res := Tryz.f45.results.toList) (C := zat A81 A82 A83) (L := noL) (fun _ _ => rfl) Tryz.func45 (by kernel_rfl) rfl rfl (zb1 A81 A82 A83 h81 h82 h83) (Jf (l := []) (by kernel_rfl) Jc)).weak (by
 intro us k h
 unfold Zm at h
 split at h
 ·skip
  rename_i a0 a1
  rw [jb1 A81 A82 A83 a0 a1 k]
  exact h
 ·exact h.elim)
abbrev T_c_IsOfName := Int → (Bool → Prop) → Prop
def jo (A : T_c_IsOfName) (us : List W) (k : W → Prop) : Prop := match us with
 | [.i .u8 a0] => A a0 (fun r0 => k (.b r0))
 | _ => False
theorem jbK {A A2 : T_c_IsOfName} (h : FO ro 104 (jo A)) (hA : ∀ a0 K, A2 a0 K → A a0 K) : FO ro 104 (jo A2) := h.weak (by
 intro us k h
 unfold jo at h ⊢
 split at h
 ·exact hA _ _ h
 ·exact h.elim)
def jap (A82 : T_c_StartsName) (A87 : T_c_IsDigit) (a0 : Int) (K : Bool → Prop) : Prop :=
 (A82 a0 (fun y1 => ((y1 = false → (A87 a0 (fun y2 => ((y2 = false → K (decide (a0 = 45))) ∧ (y2 = true → K true))))) ∧ (y1 = true → K true))))
def zaX (A82 : T_c_StartsName) (A87 : T_c_IsDigit) : jg sg := tab [(82, con [none] (Zi A82)), (87, con [none] (jd A87))]
theorem zcF (A82 : T_c_StartsName) (A87 : T_c_IsDigit) (h82 : FO ro 82 (Zi A82)) (h87 : FO ro 87 (jd A87)) (o0 : Nat → Prop) : zh sy Tryz.prog GT (ovD ro) o0 ro (zaX A82 A87) := (ja (Zb h82) (ja (Zb h87) jc)) o0
theorem jcF (A82 : T_c_StartsName) (A87 : T_c_IsDigit) (a0 : Int) (k : W → Prop) : fnT sy Tryz.prog GT (zaX A82 A87) noL Tryz.f104.ntmps (za Tryz.f104) [none] Tryz.f104.results.toList [.i .u8 a0] k = jap A82 A87 a0 (fun r0 => k (.b r0)) := by kernel_rfl
theorem jc4 (A82 : T_c_StartsName) (A87 : T_c_IsDigit) (h82 : FO ro 82 (Zi A82)) (h87 : FO ro 87 (jd A87)) : FO ro 104 (jo (jap A82 A87)) := (Zq (rc := [none]) (f := 104) (fn := Tryz.f104) (c := za Tryz.f104) (nt := Tryz.f104.ntmps) (res := Tryz.f104.results.toList) (C := zaX A82 A87) (L := noL) (fun _ _ => rfl) Tryz.func104 (by kernel_rfl) rfl rfl (zcF A82 A87 h82 h87) (Jf (l := []) (by kernel_rfl) Jc)).weak (by
 intro us k h
 unfold jo at h
 split at h
 ·skip
  rename_i a0
  rw [jcF A82 A87 a0 k]
  exact h
 ·exact h.elim)
abbrev T_k_nGO := Bt → Int → (Bool → Prop) → Prop
def Z0 (A : T_k_nGO) (us : List W) (k : W → Prop) : Prop := match us with
 | [.s a0, .i .i64 a1] => A a0 a1 (fun r0 => k (.b r0))
 | _ => False
theorem zdu {A A2 : T_k_nGO} (h : FO ro 84 (Z0 A)) (hA : ∀ a0 a1 K, A2 a0 a1 K → A a0 a1 K) : FO ro 84 (Z0 A2) := h.weak (by
 intro us k h
 unfold Z0 at h ⊢
 split at h
 ·exact hA _ _ _ h
 ·exact h.elim)
def Zc4 (A81 : T_k_byteAt) (A104 : T_c_IsOfName) (A83 : T_k_eSt) (a0 : Bt) (a1 : Int) (K : Bool → Prop) : Prop :=
 (A81 a0 a1 (fun y1 => (A104 y1 (fun y2 => ((y2 = false → (A83 a0 a1 (fun y3 => K y3))) ∧ (y2 = true → K true))))))
def JdR (A81 : T_k_byteAt) (A104 : T_c_IsOfName) (A83 : T_k_eSt) : jg sg := tab [(81, con [none, none] (zb A81)), (104, con [none] (jo A104)), (83, con [none, none] (jA A83))]
theorem zeR (A81 : T_k_byteAt) (A104 : T_c_IsOfName) (A83 : T_k_eSt) (h81 : FO ro 81 (zb A81)) (h104 : FO ro 104 (jo A104)) (h83 : FO ro 83 (jA A83)) (o0 : Nat → Prop) : zh sy Tryz.prog GT (ovD ro) o0 ro (JdR A81 A104 A83) := (ja (Zb h81) (ja (Zb h104) (ja (Zb h83) jc))) o0
theorem jeR (A81 : T_k_byteAt) (A104 : T_c_IsOfName) (A83 : T_k_eSt) (a0 : Bt) (a1 : Int) (k : W → Prop) : fnT sy Tryz.prog GT (JdR A81 A104 A83) noL Tryz.f84.ntmps (za Tryz.f84) [none] Tryz.f84.results.toList [.s a0, .i .i64 a1] k = Zc4 A81 A104 A83 a0 a1 (fun r0 => k (.b r0)) := by kernel_rfl
theorem zfk (A81 : T_k_byteAt) (A104 : T_c_IsOfName) (A83 : T_k_eSt) (h81 : FO ro 81 (zb A81)) (h104 : FO ro 104 (jo A104)) (h83 : FO ro 83 (jA A83)) : FO ro 84 (Z0 (Zc4 A81 A104 A83)) := (Zq (rc := [none]) (f := 84) (fn := Tryz.f84) (c := za Tryz.f84) (nt := Tryz.f84.ntmps) (res := Tryz.f84.results.toList) (C := JdR A81 A104 A83) (L := noL) (fun _ _ => rfl) Tryz.func84 (by kernel_rfl) rfl rfl (zeR A81 A104 A83 h81 h104 h83) (Jf (l := []) (by kernel_rfl) Jc)).weak (by
 intro us k h
 unfold Z0 at h
 split at h
 ·skip
  rename_i a0 a1
  rw [jeR A81 A104 A83 a0 a1 k]
  exact h
 ·exact h.elim)
abbrev T_c_IsSpace := Int → (Bool → Prop) → Prop
def zc (A : T_c_IsSpace) (us : List W) (k : W → Prop) : Prop := match us with
 | [.i .u8 a0] => A a0 (fun r0 => k (.b r0))
 | _ => False
theorem Zb1 {A A2 : T_c_IsSpace} (h : FO ro 97 (zc A)) (hA : ∀ a0 K, A2 a0 K → A a0 K) : FO ro 97 (zc A2) := h.weak (by
 intro us k h
 unfold zc at h ⊢
 split at h
 ·exact hA _ _ h
 ·exact h.elim)
def ZaI (a0 : Int) (K : Bool → Prop) : Prop :=
 (((decide (a0 = 10)) = false → (((decide (a0 = 9)) = false → K (decide (a0 = 32))) ∧ ((decide (a0 = 9)) = true → K true))) ∧ ((decide (a0 = 10)) = true → K true))
def Zbm : jg sg := tab []
theorem Jc4 (o0 : Nat → Prop) : zh sy Tryz.prog GT (ovD ro) o0 ro (Zbm) := jc o0
theorem zc5 (a0 : Int) (k : W → Prop) : fnT sy Tryz.prog GT (Zbm) noL Tryz.f97.ntmps (za Tryz.f97) [none] Tryz.f97.results.toList [.i .u8 a0] k = ZaI a0 (fun r0 => k (.b r0)) := by kernel_rfl
theorem jdu : FO ro 97 (zc (ZaI)) := (Zq (rc := [none]) (f := 97) (fn := Tryz.f97) (c := za Tryz.f97) (nt := Tryz.f97.ntmps) (res := Tryz.f97.results.toList) (C := Zbm) (L := noL) (fun _ _ => rfl) Tryz.func97 (by kernel_rfl) rfl rfl (Jc4) (Jf (l := []) (by kernel_rfl) Jc)).weak (by
 intro us k h
 unfold zc at h
 split at h
 ·skip
  rename_i a0
  rw [zc5 a0 k]
  exact h
 ·exact h.elim)
abbrev T_c_IsQuote := Int → (Bool → Prop) → Prop
def jp (A : T_c_IsQuote) (us : List W) (k : W → Prop) : Prop := match us with
 | [.i .u8 a0] => A a0 (fun r0 => k (.b r0))
 | _ => False
theorem Jb1 {A A2 : T_c_IsQuote} (h : FO ro 98 (jp A)) (hA : ∀ a0 K, A2 a0 K → A a0 K) : FO ro 98 (jp A2) := h.weak (by
 intro us k h
 unfold jp at h ⊢
 split at h
 ·exact hA _ _ h
 ·exact h.elim)
def JaI (a0 : Int) (K : Bool → Prop) : Prop :=
 (((decide (a0 = 34)) = false → K (decide (a0 = 39))) ∧ ((decide (a0 = 34)) = true → K true))
def Jbm : jg sg := tab []
theorem jc5 (o0 : Nat → Prop) : zh sy Tryz.prog GT (ovD ro) o0 ro (Jbm) := jc o0
theorem Zc5 (a0 : Int) (k : W → Prop) : fnT sy Tryz.prog GT (Jbm) noL Tryz.f98.ntmps (za Tryz.f98) [none] Tryz.f98.results.toList [.i .u8 a0] k = JaI a0 (fun r0 => k (.b r0)) := by kernel_rfl
theorem Zdu : FO ro 98 (jp (JaI)) := (Zq (rc := [none]) (f := 98) (fn := Tryz.f98) (c := za Tryz.f98) (nt := Tryz.f98.ntmps) (res := Tryz.f98.results.toList) (C := Jbm) (L := noL) (fun _ _ => rfl) Tryz.func98 (by kernel_rfl) rfl rfl (jc5) (Jf (l := []) (by kernel_rfl) Jc)).weak (by
 intro us k h
 unfold jp at h
 split at h
 ·skip
  rename_i a0
  rw [Zc5 a0 k]
  exact h
 ·exact h.elim)
abbrev T_k_bSp := Bt → Int → (Int → Prop) → Prop
def zP (A : T_k_bSp) (us : List W) (k : W → Prop) : Prop := match us with
 | [.s a0, .i .i64 a1] => A a0 a1 (fun r0 => k (.i .i64 r0))
 | _ => False
theorem Jdu {A A2 : T_k_bSp} (h : FO ro 117 (zP A)) (hA : ∀ a0 a1 K, A2 a0 a1 K → A a0 a1 K) : FO ro 117 (zP A2) := h.weak (by
 intro us k h
 unfold zP at h ⊢
 split at h
 ·exact hA _ _ _ h
 ·exact h.elim)
def ja9 (A81 : T_k_byteAt) (A97 : T_c_IsSpace) : Nat → Bt → Int → (Int → Prop) → Prop
 | 0, _, _, _ => False
 | n + 1, x0, x1, Ke => (A81 x0 x1 (fun y1 => (A97 y1 (fun y2 => ((y2 = true → (I64 (x1 + 1) ∧ ja9 A81 A97 n x0 (x1 + 1) Ke)) ∧ (y2 = false → Ke x1))))))
def zdS (A81 : T_k_byteAt) (A97 : T_c_IsSpace) (a0 : Bt) (a1 : Int) (K : Int → Prop) : Prop :=
 (∃ m, ja9 A81 A97 m a0 a1 (fun y1 => K y1))
def Jc5 (A81 : T_k_byteAt) (A97 : T_c_IsSpace) : jg sg := tab [(81, con [none, none] (zb A81)), (97, con [none] (zc A97))]
theorem zdv (A81 : T_k_byteAt) (A97 : T_c_IsSpace) (h81 : FO ro 81 (zb A81)) (h97 : FO ro 97 (zc A97)) (o0 : Nat → Prop) : zh sy Tryz.prog GT (ovD ro) o0 ro (Jc5 A81 A97) := (ja (Zb h81) (ja (Zb h97) jc)) o0
def ls_k_bSp_1 : LS sy ((Bt) × Int × Unit) Unit := ⟨[], Jb 0 (zw sy) (Jb 1 (Ji sy .i64) (jz sy)), Zz sy, 0, []⟩
def le_k_bSp_1 : LS sy (Int × Unit) Unit := ⟨[], Jb 1 (Ji sy .i64) (jz sy), Zz sy, 0, []⟩
def ZbK : LS sy Unit Unit := ⟨[], jz sy, Zz sy, 0, []⟩
def Za9 (A81 : T_k_byteAt) (A97 : T_c_IsSpace) (n : Nat) (x : ((Bt) × Int × Unit) × Unit) (K : Ex → Z sg → Prop) : Prop := ja9 A81 A97 n x.1.1 x.1.2.1 (fun y0 => K (.exit 0) (le_k_bSp_1.put ((y0, ()), ())))
def ZeR (A81 : T_k_byteAt) (A97 : T_c_IsSpace) (z : Z sg) (K : Ex → Z sg → Prop) : Prop := ls_k_bSp_1.get z (fun x => ∃ n, Za9 A81 A97 n x K)
def JbK (A81 : T_k_byteAt) (A97 : T_c_IsSpace) : zK sg := Zb8 [(1, ZeR A81 A97)]
theorem Zem (A81 : T_k_byteAt) (A97 : T_c_IsSpace) (n : Nat) (x : ((Bt) × Int × Unit) × Unit) (K : Ex → Z sg → Prop) : Jp (ls_k_bSp_1.put x) (fun z => sC sy Tryz.prog GT (Jc5 A81 A97) (JbK A81 A97) Tryz.f117.ntmps (Ja (za Tryz.f117) 0) z (rnd ls_k_bSp_1 (czT 0 le_k_bSp_1 ZbK) (fun x => Za9 A81 A97 n x K) K)) = Za9 A81 A97 (n + 1) x K := by kernel_rfl
theorem Jem (A81 : T_k_byteAt) (A97 : T_c_IsSpace) (z : Z sg) (K : Ex → Z sg → Prop) : (JbK A81 A97) (Ja (za Tryz.f117) 0) z K = ls_k_bSp_1.get z (fun x => ∃ n, Za9 A81 A97 n x K) := by kernel_rfl
theorem zen (A81 : T_k_byteAt) (A97 : T_c_IsSpace) (h81 : FO ro 81 (zb A81)) (h97 : FO ro 97 (zc A97)) : ∀ (o0 : Nat → Prop) (B : Bs sg), B.E.length ≤ 0 → ∀ z K, (JbK A81 A97) (Ja (za Tryz.f117) 0) z K → Sx.Sem sy Tryz.prog GT (ovD ro) o0 ro Tryz.f117.ntmps B (.loop (Ja (za Tryz.f117) 0)) z K :=
 Jy (zdv A81 A97 h81 h97) (Jf (l := []) (by kernel_rfl) Jc) ls_k_bSp_1 (by decide) (czT 0 le_k_bSp_1 ZbK) (fun _ _ hB => ZO 0 le_k_bSp_1 ZbK (Nat.le_trans hB (by decide)) (Nat.le_trans hB (by decide))) (fun _ _ h => h) (Zem A81 A97) (Jem A81 A97)
theorem jfk (A81 : T_k_byteAt) (A97 : T_c_IsSpace) (h81 : FO ro 81 (zb A81)) (h97 : FO ro 97 (zc A97)) : jbH sy Tryz.prog GT (ovD ro) ro (JbK A81 A97) 0 Tryz.f117.ntmps (za Tryz.f117) := Jf (l := [(Ja (za Tryz.f117) 0)]) (by kernel_rfl) (Zy (zen A81 A97 h81 h97) Jc)
theorem JeR (A81 : T_k_byteAt) (A97 : T_c_IsSpace) (a0 : Bt) (a1 : Int) (k : W → Prop) : fnT sy Tryz.prog GT (Jc5 A81 A97) (JbK A81 A97) Tryz.f117.ntmps (za Tryz.f117) [none] Tryz.f117.results.toList [.s a0, .i .i64 a1] k = zdS A81 A97 a0 a1 (fun r0 => k (.i .i64 r0)) := by kernel_rfl
theorem Zfk (A81 : T_k_byteAt) (A97 : T_c_IsSpace) (h81 : FO ro 81 (zb A81)) (h97 : FO ro 97 (zc A97)) : FO ro 117 (zP (zdS A81 A97)) := (Zq (rc := [none]) (f := 117) (fn := Tryz.f117) (c := za Tryz.f117) (nt := Tryz.f117.ntmps) (res := Tryz.f117.results.toList) (C := Jc5 A81 A97) (L := (JbK A81 A97)) (fun _ _ => rfl) Tryz.func117 (by kernel_rfl) rfl rfl (zdv A81 A97 h81 h97) (jfk A81 A97 h81 h97)).weak (by
 intro us k h
 unfold zP at h
 split at h
 ·skip
  rename_i a0 a1
  rw [JeR A81 A97 a0 a1 k]
  exact h
 ·exact h.elim)
abbrev T_gslHPx := Bt → Bt → (Bool → Prop) → Prop
def zah (A : T_gslHPx) (us : List W) (k : W → Prop) : Prop := match us with
 | [.s a0, .s a1] => A a0 a1 (fun r0 => k (.b r0))
 | _ => False
theorem zc6 {A A2 : T_gslHPx} (h : FO ro 140 (zah A)) (hA : ∀ a0 a1 K, A2 a0 a1 K → A a0 a1 K) : FO ro 140 (zah A2) := h.weak (by
 intro us k h
 unfold zah at h ⊢
 split at h
 ·exact hA _ _ _ h
 ·exact h.elim)
def jc6 (a0 : Bt) (a1 : Bt) (K : Bool → Prop) : Prop :=
 (((decide ((a1.length : Int) ≤ (a0.length : Int))) = true → ((0 ≤ (a1.length : Int) ∧ (a1.length : Int) ≤ (a0.length : Int)) ∧ K ((a0.take (a1.length : Int).toNat) == a1))) ∧ ((decide ((a1.length : Int) ≤ (a0.length : Int))) = false → K false))
def Zc6 : jg sg := tab []
theorem jen (o0 : Nat → Prop) : zh sy Tryz.prog GT (ovD ro) o0 ro (Zc6) := jc o0
theorem Zen (a0 : Bt) (a1 : Bt) (k : W → Prop) : fnT sy Tryz.prog GT (Zc6) noL Tryz.f140.ntmps (za Tryz.f140) [none] Tryz.f140.results.toList [.s a0, .s a1] k = jc6 a0 a1 (fun r0 => k (.b r0)) := by kernel_rfl
theorem zeS : FO ro 140 (zah (jc6)) := (Zq (rc := [none]) (f := 140) (fn := Tryz.f140) (c := za Tryz.f140) (nt := Tryz.f140.ntmps) (res := Tryz.f140.results.toList) (C := Zc6) (L := noL) (fun _ _ => rfl) Tryz.func140 (by kernel_rfl) rfl rfl (jen) (Jf (l := []) (by kernel_rfl) Jc)).weak (by
 intro us k h
 unfold zah at h
 split at h
 ·skip
  rename_i a0 a1
  rw [Zen a0 a1 k]
  exact h
 ·exact h.elim)
abbrev T_gs_HPx := Bt → Bt → (Bool → Prop) → Prop
def ZB (A : T_gs_HPx) (us : List W) (k : W → Prop) : Prop := match us with
 | [.s a0, .s a1] => A a0 a1 (fun r0 => k (.b r0))
 | _ => False
theorem Jc6 {A A2 : T_gs_HPx} (h : FO ro 115 (ZB A)) (hA : ∀ a0 a1 K, A2 a0 a1 K → A a0 a1 K) : FO ro 115 (ZB A2) := h.weak (by
 intro us k h
 unfold ZB at h ⊢
 split at h
 ·exact hA _ _ _ h
 ·exact h.elim)
def zc7 (A140 : T_gslHPx) (a0 : Bt) (a1 : Bt) (K : Bool → Prop) : Prop :=
 (A140 a0 a1 (fun y1 => K y1))
def jc7 (A140 : T_gslHPx) : jg sg := tab [(140, con [none, none] (zah A140))]
theorem Jen (A140 : T_gslHPx) (h140 : FO ro 140 (zah A140)) (o0 : Nat → Prop) : zh sy Tryz.prog GT (ovD ro) o0 ro (jc7 A140) := (ja (Zb h140) jc) o0
theorem zeo (A140 : T_gslHPx) (a0 : Bt) (a1 : Bt) (k : W → Prop) : fnT sy Tryz.prog GT (jc7 A140) noL Tryz.f115.ntmps (za Tryz.f115) [none] Tryz.f115.results.toList [.s a0, .s a1] k = zc7 A140 a0 a1 (fun r0 => k (.b r0)) := by kernel_rfl
theorem jeS (A140 : T_gslHPx) (h140 : FO ro 140 (zah A140)) : FO ro 115 (ZB (zc7 A140)) := (Zq (rc := [none]) (f := 115) (fn := Tryz.f115) (c := za Tryz.f115) (nt := Tryz.f115.ntmps) (res := Tryz.f115.results.toList) (C := jc7 A140) (L := noL) (fun _ _ => rfl) Tryz.func115 (by kernel_rfl) rfl rfl (Jen A140 h140) (Jf (l := []) (by kernel_rfl) Jc)).weak (by
 intro us k h
 unfold ZB at h
 split at h
 ·skip
  rename_i a0 a1
  rw [zeo A140 a0 a1 k]
  exact h
 ·exact h.elim)
abbrev T_i_startsWithLineEnd := Bt → (Bool → Prop) → Prop
def Zf (A : T_i_startsWithLineEnd) (us : List W) (k : W → Prop) : Prop := match us with
 | [.s a0] => A a0 (fun r0 => k (.b r0))
 | _ => False
theorem zan {A A2 : T_i_startsWithLineEnd} (h : FO ro 114 (Zf A)) (hA : ∀ a0 K, A2 a0 K → A a0 K) : FO ro 114 (Zf A2) := h.weak (by
 intro us k h
 unfold Zf at h ⊢
 split at h
 ·exact hA _ _ h
 ·exact h.elim)
def jP (a0 : Bt) (K : Bool → Prop) : Prop :=
 (((decide ((0 : Int) < (a0.length : Int))) = true → ((0 ≤ (0 : Int) ∧ (0 : Int) < (a0.length : Int)) ∧ K (decide (((a0.getD 0 0).toNat : Int) = (10 : Int))))) ∧ ((decide ((0 : Int) < (a0.length : Int))) = false → K false))
def ZP : jg sg := tab []
theorem zaJ (o0 : Nat → Prop) : zh sy Tryz.prog GT (ovD ro) o0 ro (ZP) := jc o0
theorem jaJ (a0 : Bt) (k : W → Prop) : fnT sy Tryz.prog GT (ZP) noL Tryz.f114.ntmps (za Tryz.f114) [none] Tryz.f114.results.toList [.s a0] k = jP a0 (fun r0 => k (.b r0)) := by kernel_rfl
theorem JaP : FO ro 114 (Zf (jP)) := (Zq (rc := [none]) (f := 114) (fn := Tryz.f114) (c := za Tryz.f114) (nt := Tryz.f114.ntmps) (res := Tryz.f114.results.toList) (C := ZP) (L := noL) (fun _ _ => rfl) Tryz.func114 (by kernel_rfl) rfl rfl (zaJ) (Jf (l := []) (by kernel_rfl) Jc)).weak (by
 intro us k h
 unfold Zf at h
 split at h
 ·skip
  rename_i a0
  rw [jaJ a0 k]
  exact h
 ·exact h.elim)
abbrev T_i_Clean := Bt → (Bt → Int → Prop) → Prop
def ZK (A : T_i_Clean) (us : List W) (k : W → Prop) : Prop := match us with
 | [.s a0] => A a0 (fun r0 r1 => k (.t [.s r0, .i .i64 r1]))
 | _ => False
theorem ZcF {A A2 : T_i_Clean} (h : FO ro 78 (ZK A)) (hA : ∀ a0 K, A2 a0 K → A a0 K) : FO ro 78 (ZK A2) := h.weak (by
 intro us k h
 unfold ZK at h ⊢
 split at h
 ·exact hA _ _ h
 ·exact h.elim)
def ZG (A114 : T_i_startsWithLineEnd) : Nat → Bt → Int → Bt → (Bt → Prop) → Prop
 | 0, _, _, _, _ => False
 | n + 1, x0, x5, b0, Ke => (((decide (x5 < (x0.length : Int))) = true → ((0 ≤ x5 ∧ x5 < (x0.length : Int)) ∧ (((decide (((x0.getD x5.toNat 0).toNat : Int) = (0 : Int))) = true → ((b0.length + ([239, 191, 189] : Bt).length) * 1 ≤ 1099511627776 ∧ (I64 (x5 + 1) ∧ ZG A114 n x0 (x5 + 1) (b0 ++ ([239, 191, 189] : Bt)) Ke))) ∧ ((decide (((x0.getD x5.toNat 0).toNat : Int) = (0 : Int))) = false → (((decide (((x0.getD x5.toNat 0).toNat : Int) = (12 : Int))) = true → ((0 ≤ (10 : Int) ∧ (10 : Int) ≤ 255) ∧ ((b0.length + [UInt8.ofNat 10].length) * 1 ≤ 1099511627776 ∧ (I64 (x5 + 1) ∧ ZG A114 n x0 (x5 + 1) (b0 ++ [UInt8.ofNat 10]) Ke)))) ∧ ((decide (((x0.getD x5.toNat 0).toNat : Int) = (12 : Int))) = false → (((decide (((x0.getD x5.toNat 0).toNat : Int) = (13 : Int))) = true → (I64 (x5 + 1) ∧ ((0 ≤ (x5 + 1) ∧ (x5 + 1) ≤ (x0.length : Int)) ∧ (A114 (x0.drop (x5 + 1).toNat) (fun y1 => (((!y1) = true → ((0 ≤ (10 : Int) ∧ (10 : Int) ≤ 255) ∧ ((b0.length + [UInt8.ofNat 10].length) * 1 ≤ 1099511627776 ∧ (I64 (x5 + 1) ∧ ZG A114 n x0 (x5 + 1) (b0 ++ [UInt8.ofNat 10]) Ke)))) ∧ ((!y1) = false → (I64 (x5 + 1) ∧ ZG A114 n x0 (x5 + 1) b0 Ke)))))))) ∧ ((decide (((x0.getD x5.toNat 0).toNat : Int) = (13 : Int))) = false → ((0 ≤ x5 ∧ x5 < (x0.length : Int)) ∧ ((0 ≤ ((x0.getD x5.toNat 0).toNat : Int) ∧ ((x0.getD x5.toNat 0).toNat : Int) ≤ 255) ∧ ((b0.length + [UInt8.ofNat (((x0.getD x5.toNat 0).toNat : Int).toNat)].length) * 1 ≤ 1099511627776 ∧ (I64 (x5 + 1) ∧ ZG A114 n x0 (x5 + 1) (b0 ++ [UInt8.ofNat (((x0.getD x5.toNat 0).toNat : Int).toNat)]) Ke)))))))))))) ∧ ((decide (x5 < (x0.length : Int))) = false → Ke b0))
def Zcn (A114 : T_i_startsWithLineEnd) (a0 : Bt) (K : Bt → Int → Prop) : Prop :=
 (((decide ((4000 : Int) < (a0.length : Int))) = true → K ([] : Bt) (28 : Int)) ∧ ((decide ((4000 : Int) < (a0.length : Int))) = false → ((0 ≤ (0 : Int) ∧ (0 : Int) ≤ (a0.length : Int) ∧ 1 * (a0.length : Int) ≤ 1099511627776 ∧ (a0.length : Int) ≤ 1099511627776) ∧ ((0 ≤ (0 : Int) ∧ (0 : Int) ≤ 255) ∧ (∃ m, ZG A114 m a0 (0 : Int) (List.replicate 0 (UInt8.ofNat 0)) (fun y1 => K y1 (0 : Int)))))))
def zby (A114 : T_i_startsWithLineEnd) : jg sg := tab [(114, con [none] (Zf A114))]
theorem Jcn (A114 : T_i_startsWithLineEnd) (h114 : FO ro 114 (Zf A114)) (o0 : Nat → Prop) : zh sy Tryz.prog GT (ovD ro) o0 ro (zby A114) := (ja (Zb h114) jc) o0
def ls_i_Clean_5 : LS sy ((Bt) × Unit × Int × Unit) (List (sg.Den Cd.u8) × Unit) := ⟨[], Jb 0 (zw sy) (Jb 4 (JL sy (.o 0)) (Jb 5 (Ji sy .i64) (jz sy))), ZV 0 Cd.u8 (Zz sy), 1, [0]⟩
def le_i_Clean_5 : LS sy (Unit × Unit) (List (sg.Den Cd.u8) × Unit) := ⟨[], Jb 4 (JL sy (.o 0)) (jz sy), ZV 0 Cd.u8 (Zz sy), 1, [0]⟩
def jaX : LS sy Unit Unit := ⟨[], jz sy, Zz sy, 0, []⟩
def Zap (A114 : T_i_startsWithLineEnd) (n : Nat) (x : ((Bt) × Unit × Int × Unit) × (List (sg.Den Cd.u8) × Unit)) (K : Ex → Z sg → Prop) : Prop := ZG A114 n x.1.1 x.1.2.2.1 x.2.1 (fun y0 => K (.exit 0) (le_i_Clean_5.put (((), ()), (y0, ()))))
def jdS (A114 : T_i_startsWithLineEnd) (z : Z sg) (K : Ex → Z sg → Prop) : Prop := ls_i_Clean_5.get z (fun x => ∃ n, Zap A114 n x K)
def JaA (A114 : T_i_startsWithLineEnd) : zK sg := Zb8 [(5, jdS A114)]
theorem jdv (A114 : T_i_startsWithLineEnd) (n : Nat) (x : ((Bt) × Unit × Int × Unit) × (List (sg.Den Cd.u8) × Unit)) (K : Ex → Z sg → Prop) : Jp (ls_i_Clean_5.put x) (fun z => sC sy Tryz.prog GT (zby A114) (JaA A114) Tryz.f78.ntmps (Ja (za Tryz.f78) 0) z (rnd ls_i_Clean_5 (czT 0 le_i_Clean_5 jaX) (fun x => Zap A114 n x K) K)) = Zap A114 (n + 1) x K := by kernel_rfl
theorem Zdv (A114 : T_i_startsWithLineEnd) (z : Z sg) (K : Ex → Z sg → Prop) : (JaA A114) (Ja (za Tryz.f78) 0) z K = ls_i_Clean_5.get z (fun x => ∃ n, Zap A114 n x K) := by kernel_rfl
theorem Jdv (A114 : T_i_startsWithLineEnd) (h114 : FO ro 114 (Zf A114)) : ∀ (o0 : Nat → Prop) (B : Bs sg), B.E.length ≤ 0 → ∀ z K, (JaA A114) (Ja (za Tryz.f78) 0) z K → Sx.Sem sy Tryz.prog GT (ovD ro) o0 ro Tryz.f78.ntmps B (.loop (Ja (za Tryz.f78) 0)) z K :=
 Jy (Jcn A114 h114) (Jf (l := []) (by kernel_rfl) Jc) ls_i_Clean_5 (by decide) (czT 0 le_i_Clean_5 jaX) (fun _ _ hB => ZO 0 le_i_Clean_5 jaX (Nat.le_trans hB (by decide)) (Nat.le_trans hB (by decide))) (fun _ _ h => h) (jdv A114) (Zdv A114)
theorem jeo (A114 : T_i_startsWithLineEnd) (h114 : FO ro 114 (Zf A114)) : jbH sy Tryz.prog GT (ovD ro) ro (JaA A114) 0 Tryz.f78.ntmps (za Tryz.f78) := Jf (l := [(Ja (za Tryz.f78) 0)]) (by kernel_rfl) (Zy (Jdv A114 h114) Jc)
theorem ZdS (A114 : T_i_startsWithLineEnd) (a0 : Bt) (k : W → Prop) : fnT sy Tryz.prog GT (zby A114) (JaA A114) Tryz.f78.ntmps (za Tryz.f78) [none, none] Tryz.f78.results.toList [.s a0] k = Zcn A114 a0 (fun r0 r1 => k (.t [.s r0, .i .i64 r1])) := by kernel_rfl
theorem Zeo (A114 : T_i_startsWithLineEnd) (h114 : FO ro 114 (Zf A114)) : FO ro 78 (ZK (Zcn A114)) := (Zq (rc := [none, none]) (f := 78) (fn := Tryz.f78) (c := za Tryz.f78) (nt := Tryz.f78.ntmps) (res := Tryz.f78.results.toList) (C := zby A114) (L := (JaA A114)) (fun _ _ => rfl) Tryz.func78 (by kernel_rfl) rfl rfl (Jcn A114 h114) (jeo A114 h114)).weak (by
 intro us k h
 unfold ZK at h
 split at h
 ·skip
  rename_i a0
  rw [ZdS A114 a0 k]
  exact h
 ·exact h.elim)
end Go.Proofs.YtkokbidbmidlbaaGreatDoor
