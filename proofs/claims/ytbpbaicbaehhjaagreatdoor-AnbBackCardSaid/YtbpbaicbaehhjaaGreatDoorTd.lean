/-
 Functions of the tokenizer, followed. Nothing is claimed here.
-/
import Derived.Test.YtbpbaicbaehhjaaGreatDoorTa
import Derived.Test.YtbpbaicbaehhjaaGreatDoorOb
namespace Go.Proofs.YtbpbaicbaehhjaaGreatDoor
open Go.Vm Go.Sx Go.RowKit
variable {ro : Nat}
def marksL : List Int := [0, 0, 0, 0, 0, 0, 0, 0, 0, 0, 0, 0, 0, 0, 0, 0, 0, 0, 0, 0, 0, 0, 0, 0, 0, 0, 0, 0, 0, 0, 0, 0, 0, 0, 0, 0, 0, 0, 0, 0, 21, 22, 0, 0, 18, 0, 0, 0, 0, 0, 0, 0, 0, 0, 0, 0, 0, 0, 16, 17, 0, 0, 0, 0, 0, 0, 0, 0, 0, 0, 0, 0, 0, 0, 0, 0, 0, 0, 0, 0, 0, 0, 0, 0, 0, 0, 0, 0, 0, 0, 0, 19, 0, 20, 0, 0, 0, 0, 0, 0, 0, 0, 0, 0, 0, 0, 0, 0, 0, 0, 0, 0, 0, 0, 0, 0, 0, 0, 0, 0, 0, 0, 0, 23, 0, 24]
def GT : Gl
 | 0 => some (.u8, marksL)
 | _ => none
def ovD (ro : Nat) : Ov := ovA ro
abbrev FO (ro : Nat) (f : FuncId) (pt : List W → (W → Prop) → Prop) : Prop := FnOK sy Tryz.prog GT (ovD ro) ro f pt
def noT (_ : List W) (_ : W → Prop) : Prop := False
theorem jfw {ro : Nat} (f : FuncId) : FO ro f noT := fun _ _ _ h => h.elim
abbrev Za := Bt → Int → (Int → Prop) → Prop
def jc (A : Za) (us : List W) (k : W → Prop) : Prop := match us with
 | [.s a0, .i .i64 a1] => A a0 a1 (fun r0 => k (.i .u8 r0))
 | _ => False
theorem zcL {A A2 : Za} (h : FO ro 68 (jc A)) (hA : ∀ a0 a1 K, A2 a0 a1 K → A a0 a1 K) : FO ro 68 (jc A2) := h.weak (by
 intro us k h
 unfold jc at h ⊢
 split at h
 ·exact hA _ _ _ h
 ·exact h.elim)
def Jbr (a0 : Bt) (a1 : Int) (K : Int → Prop) : Prop :=
 (((decide (a1 < (a0.length : Int))) = true → ((0 ≤ a1 ∧ a1 < (a0.length : Int)) ∧ K ((a0.getD a1.toNat 0).toNat : Int))) ∧ ((decide (a1 < (a0.length : Int))) = false → K (0 : Int)))
def Jb6 : ji sg := tab []
theorem JdX (o0 : Nat → Prop) : Zj sy Tryz.prog GT (ovD ro) o0 ro (Jb6) := Jc o0
theorem zdY (a0 : Bt) (a1 : Int) (k : W → Prop) : fnT sy Tryz.prog GT (Jb6) noL Tryz.f68.ntmps (za Tryz.f68) [none] Tryz.f68.results.toList [.s a0, .i .i64 a1] k = Jbr a0 a1 (fun r0 => k (.i .u8 r0)) := by kernel_rfl
theorem jer : FO ro 68 (jc (Jbr)) := (zt (rc := [none]) (f := 68) (fn := Tryz.f68) (c := za Tryz.f68) (nt := Tryz.f68.ntmps) (res := Tryz.f68.results.toList) (C := Jb6) (L := noL) (fun _ _ => rfl) Tryz.func68 (by kernel_rfl) rfl rfl (JdX) (zi (l := []) (by kernel_rfl) Zd)).weak (by
 intro us k h
 unfold jc at h
 split at h
 ·rw [zdY]; exact h
 ·exact h.elim)
abbrev jb := Int → (Bool → Prop) → Prop
def zf (A : jb) (us : List W) (k : W → Prop) : Prop := match us with
 | [.i .u8 a0] => A a0 (fun r0 => k (.b r0))
 | _ => False
theorem zcp {A A2 : jb} (h : FO ro 62 (zf A)) (hA : ∀ a0 K, A2 a0 K → A a0 K) : FO ro 62 (zf A2) := h.weak (by
 intro us k h
 unfold zf at h ⊢
 split at h
 ·exact hA _ _ h
 ·exact h.elim)
def zaY (a0 : Int) (K : Bool → Prop) : Prop :=
 (((decide ((48 : Int) ≤ a0)) = true → K (decide (a0 ≤ 57))) ∧ ((decide ((48 : Int) ≤ a0)) = false → K false))
def zbE : ji sg := tab []
theorem Zdv (o0 : Nat → Prop) : Zj sy Tryz.prog GT (ovD ro) o0 ro (zbE) := Jc o0
theorem Jdv (a0 : Int) (k : W → Prop) : fnT sy Tryz.prog GT (zbE) noL Tryz.f62.ntmps (za Tryz.f62) [none] Tryz.f62.results.toList [.i .u8 a0] k = zaY a0 (fun r0 => k (.b r0)) := by kernel_rfl
theorem jdY : FO ro 62 (zf (zaY)) := (zt (rc := [none]) (f := 62) (fn := Tryz.f62) (c := za Tryz.f62) (nt := Tryz.f62.ntmps) (res := Tryz.f62.results.toList) (C := zbE) (L := noL) (fun _ _ => rfl) Tryz.func62 (by kernel_rfl) rfl rfl (Zdv) (zi (l := []) (by kernel_rfl) Zd)).weak (by
 intro us k h
 unfold zf at h
 split at h
 ·rw [Jdv]; exact h
 ·exact h.elim)
abbrev zp := Int → (Bool → Prop) → Prop
def Jy (A : zp) (us : List W) (k : W → Prop) : Prop := match us with
 | [.i .u8 a0] => A a0 (fun r0 => k (.b r0))
 | _ => False
theorem jcL {A A2 : zp} (h : FO ro 73 (Jy A)) (hA : ∀ a0 K, A2 a0 K → A a0 K) : FO ro 73 (Jy A2) := h.weak (by
 intro us k h
 unfold Jy at h ⊢
 split at h
 ·exact hA _ _ h
 ·exact h.elim)
def zbs (a0 : Int) (K : Bool → Prop) : Prop :=
 (((decide (a0 = 43)) = false → K (decide (a0 = 45))) ∧ ((decide (a0 = 43)) = true → K true))
def zb7 : ji sg := tab []
theorem ZdY (o0 : Nat → Prop) : Zj sy Tryz.prog GT (ovD ro) o0 ro (zb7) := Jc o0
theorem JdY (a0 : Int) (k : W → Prop) : fnT sy Tryz.prog GT (zb7) noL Tryz.f73.ntmps (za Tryz.f73) [none] Tryz.f73.results.toList [.i .u8 a0] k = zbs a0 (fun r0 => k (.b r0)) := by kernel_rfl
theorem Zer : FO ro 73 (Jy (zbs)) := (zt (rc := [none]) (f := 73) (fn := Tryz.f73) (c := za Tryz.f73) (nt := Tryz.f73.ntmps) (res := Tryz.f73.results.toList) (C := zb7) (L := noL) (fun _ _ => rfl) Tryz.func73 (by kernel_rfl) rfl rfl (ZdY) (zi (l := []) (by kernel_rfl) Zd)).weak (by
 intro us k h
 unfold Jy at h
 split at h
 ·rw [JdY]; exact h
 ·exact h.elim)
abbrev Zam := Bt → Int → (Bool → Prop) → Prop
def Zas (A : Zam) (us : List W) (k : W → Prop) : Prop := match us with
 | [.s a0, .i .i64 a1] => A a0 a1 (fun r0 => k (.b r0))
 | _ => False
theorem zdZ {A A2 : Zam} (h : FO ro 74 (Zas A)) (hA : ∀ a0 a1 K, A2 a0 a1 K → A a0 a1 K) : FO ro 74 (Zas A2) := h.weak (by
 intro us k h
 unfold Zas at h ⊢
 split at h
 ·exact hA _ _ _ h
 ·exact h.elim)
def zdw (A68 : Za) (A62 : jb) (a0 : Bt) (a1 : Int) (K : Bool → Prop) : Prop :=
 (A68 a0 a1 (fun y1 => (((decide (y1 = 46)) = true → (I64 (a1 + 1) ∧ (A68 a0 (a1 + 1) (fun y2 => (A62 y2 (fun y3 => K y3)))))) ∧ ((decide (y1 = 46)) = false → K false))))
def Jer (A68 : Za) (A62 : jb) : ji sg := tab [(68, con [none, none] (jc A68)), (62, con [none] (zf A62))]
theorem Zfw (A68 : Za) (A62 : jb) (h68 : FO ro 68 (jc A68)) (h62 : FO ro 62 (zf A62)) (o0 : Nat → Prop) : Zj sy Tryz.prog GT (ovD ro) o0 ro (Jer A68 A62) := (ja (zc h68) (ja (zc h62) Jc)) o0
theorem Jfw (A68 : Za) (A62 : jb) (a0 : Bt) (a1 : Int) (k : W → Prop) : fnT sy Tryz.prog GT (Jer A68 A62) noL Tryz.f74.ntmps (za Tryz.f74) [none] Tryz.f74.results.toList [.s a0, .i .i64 a1] k = zdw A68 A62 a0 a1 (fun r0 => k (.b r0)) := by kernel_rfl
theorem zf4 (A68 : Za) (A62 : jb) (h68 : FO ro 68 (jc A68)) (h62 : FO ro 62 (zf A62)) : FO ro 74 (Zas (zdw A68 A62)) := (zt (rc := [none]) (f := 74) (fn := Tryz.f74) (c := za Tryz.f74) (nt := Tryz.f74.ntmps) (res := Tryz.f74.results.toList) (C := Jer A68 A62) (L := noL) (fun _ _ => rfl) Tryz.func74 (by kernel_rfl) rfl rfl (Zfw A68 A62 h68 h62) (zi (l := []) (by kernel_rfl) Zd)).weak (by
 intro us k h
 unfold Zas at h
 split at h
 ·rw [Jfw]; exact h
 ·exact h.elim)
abbrev Jbd := Bt → Int → (Bool → Prop) → Prop
def jaY (A : Jbd) (us : List W) (k : W → Prop) : Prop := match us with
 | [.s a0, .i .i64 a1] => A a0 a1 (fun r0 => k (.b r0))
 | _ => False
theorem jdZ {A A2 : Jbd} (h : FO ro 56 (jaY A)) (hA : ∀ a0 a1 K, A2 a0 a1 K → A a0 a1 K) : FO ro 56 (jaY A2) := h.weak (by
 intro us k h
 unfold jaY at h ⊢
 split at h
 ·exact hA _ _ _ h
 ·exact h.elim)
def jdw (A68 : Za) (A73 : zp) (A62 : jb) (A74 : Zam) (a0 : Bt) (a1 : Int) (K : Bool → Prop) : Prop :=
 (A68 a0 a1 (fun y1 => (A73 y1 (fun y2 => ((y2 = true → (I64 (a1 + 1) ∧ (A68 a0 (a1 + 1) (fun y3 => (A62 y3 (fun y4 => ((y4 = false → (A74 a0 (a1 + 1) (fun y5 => K y5))) ∧ (y4 = true → K true)))))))) ∧ (y2 = false → (A68 a0 a1 (fun y6 => (A62 y6 (fun y7 => ((y7 = false → (A74 a0 a1 (fun y8 => K y8))) ∧ (y7 = true → K true))))))))))))
def zes (A68 : Za) (A73 : zp) (A62 : jb) (A74 : Zam) : ji sg := tab [(68, con [none, none] (jc A68)), (73, con [none] (Jy A73)), (62, con [none] (zf A62)), (74, con [none, none] (Zas A74))]
theorem zfx (A68 : Za) (A73 : zp) (A62 : jb) (A74 : Zam) (h68 : FO ro 68 (jc A68)) (h73 : FO ro 73 (Jy A73)) (h62 : FO ro 62 (zf A62)) (h74 : FO ro 74 (Zas A74)) (o0 : Nat → Prop) : Zj sy Tryz.prog GT (ovD ro) o0 ro (zes A68 A73 A62 A74) := (ja (zc h68) (ja (zc h73) (ja (zc h62) (ja (zc h74) Jc)))) o0
theorem jfx (A68 : Za) (A73 : zp) (A62 : jb) (A74 : Zam) (a0 : Bt) (a1 : Int) (k : W → Prop) : fnT sy Tryz.prog GT (zes A68 A73 A62 A74) noL Tryz.f56.ntmps (za Tryz.f56) [none] Tryz.f56.results.toList [.s a0, .i .i64 a1] k = jdw A68 A73 A62 A74 a0 a1 (fun r0 => k (.b r0)) := by kernel_rfl
theorem jf4 (A68 : Za) (A73 : zp) (A62 : jb) (A74 : Zam) (h68 : FO ro 68 (jc A68)) (h73 : FO ro 73 (Jy A73)) (h62 : FO ro 62 (zf A62)) (h74 : FO ro 74 (Zas A74)) : FO ro 56 (jaY (jdw A68 A73 A62 A74)) := (zt (rc := [none]) (f := 56) (fn := Tryz.f56) (c := za Tryz.f56) (nt := Tryz.f56.ntmps) (res := Tryz.f56.results.toList) (C := zes A68 A73 A62 A74) (L := noL) (fun _ _ => rfl) Tryz.func56 (by kernel_rfl) rfl rfl (zfx A68 A73 A62 A74 h68 h73 h62 h74) (zi (l := []) (by kernel_rfl) Zd)).weak (by
 intro us k h
 unfold jaY at h
 split at h
 ·rw [jfx]; exact h
 ·exact h.elim)
abbrev Zs := Int → (Bool → Prop) → Prop
def Jo (A : Zs) (us : List W) (k : W → Prop) : Prop := match us with
 | [.i .u8 a0] => A a0 (fun r0 => k (.b r0))
 | _ => False
theorem ZaY {A A2 : Zs} (h : FO ro 92 (Jo A)) (hA : ∀ a0 K, A2 a0 K → A a0 K) : FO ro 92 (Jo A2) := h.weak (by
 intro us k h
 unfold Jo at h ⊢
 split at h
 ·exact hA _ _ h
 ·exact h.elim)
def Z1 (a0 : Int) (K : Bool → Prop) : Prop :=
 (((decide (a0 = 101)) = false → K (decide (a0 = 69))) ∧ ((decide (a0 = 101)) = true → K true))
def Jaj : ji sg := tab []
theorem Jbw (o0 : Nat → Prop) : Zj sy Tryz.prog GT (ovD ro) o0 ro (Jaj) := Jc o0
theorem zbx (a0 : Int) (k : W → Prop) : fnT sy Tryz.prog GT (Jaj) noL Tryz.f92.ntmps (za Tryz.f92) [none] Tryz.f92.results.toList [.i .u8 a0] k = Z1 a0 (fun r0 => k (.b r0)) := by kernel_rfl
theorem jbE : FO ro 92 (Jo (Z1)) := (zt (rc := [none]) (f := 92) (fn := Tryz.f92) (c := za Tryz.f92) (nt := Tryz.f92.ntmps) (res := Tryz.f92.results.toList) (C := Jaj) (L := noL) (fun _ _ => rfl) Tryz.func92 (by kernel_rfl) rfl rfl (Jbw) (zi (l := []) (by kernel_rfl) Zd)).weak (by
 intro us k h
 unfold Jo at h
 split at h
 ·rw [zbx]; exact h
 ·exact h.elim)
abbrev ZD := Bt → Int → (Bool → Prop) → Prop
def Jx (A : ZD) (us : List W) (k : W → Prop) : Prop := match us with
 | [.s a0, .i .i64 a1] => A a0 a1 (fun r0 => k (.b r0))
 | _ => False
theorem jbx {A A2 : ZD} (h : FO ro 93 (Jx A)) (hA : ∀ a0 a1 K, A2 a0 a1 K → A a0 a1 K) : FO ro 93 (Jx A2) := h.weak (by
 intro us k h
 unfold Jx at h ⊢
 split at h
 ·exact hA _ _ _ h
 ·exact h.elim)
def zak (A68 : Za) (A73 : zp) (A62 : jb) (a0 : Bt) (a1 : Int) (K : Bool → Prop) : Prop :=
 (A68 a0 a1 (fun y1 => (A73 y1 (fun y2 => ((y2 = true → (I64 (a1 + 1) ∧ (A68 a0 (a1 + 1) (fun y3 => (A62 y3 (fun y4 => K y4)))))) ∧ (y2 = false → (A68 a0 a1 (fun y5 => (A62 y5 (fun y6 => K y6))))))))))
def ZaB (A68 : Za) (A73 : zp) (A62 : jb) : ji sg := tab [(68, con [none, none] (jc A68)), (73, con [none] (Jy A73)), (62, con [none] (zf A62))]
theorem jb7 (A68 : Za) (A73 : zp) (A62 : jb) (h68 : FO ro 68 (jc A68)) (h73 : FO ro 73 (Jy A73)) (h62 : FO ro 62 (zf A62)) (o0 : Nat → Prop) : Zj sy Tryz.prog GT (ovD ro) o0 ro (ZaB A68 A73 A62) := (ja (zc h68) (ja (zc h73) (ja (zc h62) Jc))) o0
theorem Zb7 (A68 : Za) (A73 : zp) (A62 : jb) (a0 : Bt) (a1 : Int) (k : W → Prop) : fnT sy Tryz.prog GT (ZaB A68 A73 A62) noL Tryz.f93.ntmps (za Tryz.f93) [none] Tryz.f93.results.toList [.s a0, .i .i64 a1] k = zak A68 A73 A62 a0 a1 (fun r0 => k (.b r0)) := by kernel_rfl
theorem jcp (A68 : Za) (A73 : zp) (A62 : jb) (h68 : FO ro 68 (jc A68)) (h73 : FO ro 73 (Jy A73)) (h62 : FO ro 62 (zf A62)) : FO ro 93 (Jx (zak A68 A73 A62)) := (zt (rc := [none]) (f := 93) (fn := Tryz.f93) (c := za Tryz.f93) (nt := Tryz.f93.ntmps) (res := Tryz.f93.results.toList) (C := ZaB A68 A73 A62) (L := noL) (fun _ _ => rfl) Tryz.func93 (by kernel_rfl) rfl rfl (jb7 A68 A73 A62 h68 h73 h62) (zi (l := []) (by kernel_rfl) Zd)).weak (by
 intro us k h
 unfold Jx at h
 split at h
 ·rw [Zb7]; exact h
 ·exact h.elim)
abbrev zbe := Bt → (Int → Prop) → Prop
def JaY (A : zbe) (us : List W) (k : W → Prop) : Prop := match us with
 | [.s a0] => A a0 (fun r0 => k (.i .i64 r0))
 | _ => False
theorem ZdZ {A A2 : zbe} (h : FO ro 94 (JaY A)) (hA : ∀ a0 K, A2 a0 K → A a0 K) : FO ro 94 (JaY A2) := h.weak (by
 intro us k h
 unfold JaY at h ⊢
 split at h
 ·exact hA _ _ h
 ·exact h.elim)
def jbs : Nat → Bt → Int → Int → Int → (Int → Prop) → Prop
 | 0, _, _, _, _, _ => False
 | n + 1, x0, x3, x6, x7, Ke => (((decide (x7 < x6)) = true → (I64 ((10 : Int) * x3) ∧ ((0 ≤ x7 ∧ x7 < (x0.length : Int)) ∧ (I64 (IntKind.u8.wrap (((x0.getD x7.toNat 0).toNat : Int) - (48 : Int))) ∧ (I64 (((10 : Int) * x3) + (IntKind.u8.wrap (((x0.getD x7.toNat 0).toNat : Int) - (48 : Int)))) ∧ (I64 (x7 + 1) ∧ jbs n x0 (if (8000 : Int) < (((10 : Int) * x3) + (IntKind.u8.wrap (((x0.getD x7.toNat 0).toNat : Int) - (48 : Int)))) then (8000 : Int) else (((10 : Int) * x3) + (IntKind.u8.wrap (((x0.getD x7.toNat 0).toNat : Int) - (48 : Int))))) x6 (x7 + 1) Ke)))))) ∧ ((decide (x7 < x6)) = false → Ke x3))
def jes (a0 : Bt) (K : Int → Prop) : Prop :=
 (∃ m, jbs m a0 (0 : Int) (a0.length : Int) (0 : Int) (fun y1 => K y1))
def Zdw : ji sg := tab []
theorem JdZ (o0 : Nat → Prop) : Zj sy Tryz.prog GT (ovD ro) o0 ro (Zdw) := Jc o0
abbrev Jb7 : Type := ((Bt) × Int × Int × Int × Unit)
abbrev Yb_k_wNu_3 : Type := Unit
def ls_k_wNu_3 : LS sy Jb7 Yb_k_wNu_3 := ⟨[], Zf 0 (jax sy) (Zf 3 (jP sy .i64) (Zf 6 (jP sy .i64) (Zf 7 (jP sy .i64) (jab sy)))), Zab sy, 0, []⟩
def le_k_wNu_3 : LS sy (Int × Unit) Unit := ⟨[], Zf 3 (jP sy .i64) (jab sy), Zab sy, 0, []⟩
def zb8 : LS sy Unit Unit := ⟨[], jab sy, Zab sy, 0, []⟩
def Zbs (n : Nat) (x : Jb7 × Yb_k_wNu_3) (K : Ex → Z sg → Prop) : Prop := jbs n x.1.1 x.1.2.1 x.1.2.2.1 x.1.2.2.2.1 (fun y0 => K (.exit 0) (le_k_wNu_3.put ((y0, ()), ())))
def Zfx (z : Z sg) (K : Ex → Z sg → Prop) : Prop := ls_k_wNu_3.get z (fun x => ∃ n, Zbs n x K)
def jb8 : Z5 sg := Zc4 [(3, Zfx)]
theorem ze1 (n : Nat) (x : Jb7 × Yb_k_wNu_3) (K : Ex → Z sg → Prop) : zJ (ls_k_wNu_3.put x) (fun z => sC sy Tryz.prog GT (Zdw) (jb8) Tryz.f94.ntmps (Zb (za Tryz.f94) 0) z (rnd ls_k_wNu_3 (czT 0 le_k_wNu_3 zb8) (fun x => Zbs n x K) K)) = Zbs (n + 1) x K := by kernel_rfl
theorem je1 (z : Z sg) (K : Ex → Z sg → Prop) : (jb8) (Zb (za Tryz.f94) 0) z K = ls_k_wNu_3.get z (fun x => ∃ n, Zbs n x K) := by kernel_rfl
theorem Ze1 : ∀ (o0 : Nat → Prop) (B : Bs sg), B.E.length ≤ 0 → ∀ z K, (jb8) (Zb (za Tryz.f94) 0) z K → Sx.Sem sy Tryz.prog GT (ovD ro) o0 ro Tryz.f94.ntmps B (.loop (Zb (za Tryz.f94) 0)) z K :=
 jS (JdZ) (zi (l := []) (by kernel_rfl) Zd) ls_k_wNu_3 (by decide) (czT 0 le_k_wNu_3 zb8) (fun _ _ hB => Zag 0 le_k_wNu_3 zb8 (Nat.le_trans hB (by decide)) (Nat.le_trans hB (by decide))) (fun _ _ h => h) (ze1) (je1)
theorem Zf4 : Zcx sy Tryz.prog GT (ovD ro) ro (jb8) 0 Tryz.f94.ntmps (za Tryz.f94) := zi (l := [(Zb (za Tryz.f94) 0)]) (by kernel_rfl) (zS (Ze1) Zd)
theorem Jfx (a0 : Bt) (k : W → Prop) : fnT sy Tryz.prog GT (Zdw) (jb8) Tryz.f94.ntmps (za Tryz.f94) [none] Tryz.f94.results.toList [.s a0] k = jes a0 (fun r0 => k (.i .i64 r0)) := by kernel_rfl
theorem Jf4 : FO ro 94 (JaY (jes)) := (zt (rc := [none]) (f := 94) (fn := Tryz.f94) (c := za Tryz.f94) (nt := Tryz.f94.ntmps) (res := Tryz.f94.results.toList) (C := Zdw) (L := (jb8)) (fun _ _ => rfl) Tryz.func94 (by kernel_rfl) rfl rfl (JdZ) (Zf4)).weak (by
 intro us k h
 unfold JaY at h
 split at h
 ·rw [Jfx]; exact h
 ·exact h.elim)
abbrev ZaF := Bt → Int → (Bt → Prop) → Prop
def Jax (A : ZaF) (us : List W) (k : W → Prop) : Prop := match us with
 | [.s a0, .i .u8 a1] => A a0 a1 (fun r0 => k (.s r0))
 | _ => False
theorem Jdw {A A2 : ZaF} (h : FO ro 104 (Jax A)) (hA : ∀ a0 a1 K, A2 a0 a1 K → A a0 a1 K) : FO ro 104 (Jax A2) := h.weak (by
 intro us k h
 unfold Jax at h ⊢
 split at h
 ·exact hA _ _ _ h
 ·exact h.elim)
def zaZ : Nat → Bt → Int → (Bt → Prop) → Prop
 | 0, _, _, _ => False
 | n + 1, x0, x1, Ke => (((decide ((0 : Int) < (x0.length : Int))) = true → ((0 ≤ (0 : Int) ∧ (0 : Int) < (x0.length : Int)) ∧ (((decide (((x0.getD 0 0).toNat : Int) = x1)) = true → ((0 ≤ (1 : Int) ∧ (1 : Int) ≤ (x0.length : Int)) ∧ zaZ n (x0.drop 1) x1 Ke)) ∧ ((decide (((x0.getD 0 0).toNat : Int) = x1)) = false → Ke x0)))) ∧ ((decide ((0 : Int) < (x0.length : Int))) = false → Ke x0))
def zdx (a0 : Bt) (a1 : Int) (K : Bt → Prop) : Prop :=
 (∃ m, zaZ m a0 a1 (fun y1 => K y1))
def jcy : ji sg := tab []
theorem jdj (o0 : Nat → Prop) : Zj sy Tryz.prog GT (ovD ro) o0 ro (jcy) := Jc o0
abbrev ZbE : Type := ((Bt) × Int × Unit)
abbrev Yb_gs_tLB_1 : Type := Unit
def ls_gs_tLB_1 : LS sy ZbE Yb_gs_tLB_1 := ⟨[], Zf 0 (jax sy) (Zf 1 (jP sy .u8) (jab sy)), Zab sy, 0, []⟩
def le_gs_tLB_1 : LS sy ((Bt) × Unit) Unit := ⟨[], Zf 0 (jax sy) (jab sy), Zab sy, 0, []⟩
def JbE : LS sy Unit Unit := ⟨[], jab sy, Zab sy, 0, []⟩
def jaZ (n : Nat) (x : ZbE × Yb_gs_tLB_1) (K : Ex → Z sg → Prop) : Prop := zaZ n x.1.1 x.1.2.1 (fun y0 => K (.exit 0) (le_gs_tLB_1.put ((y0, ()), ())))
def Je1 (z : Z sg) (K : Ex → Z sg → Prop) : Prop := ls_gs_tLB_1.get z (fun x => ∃ n, jaZ n x K)
def Jbs : Z5 sg := Zc4 [(1, Je1)]
theorem Zes (n : Nat) (x : ZbE × Yb_gs_tLB_1) (K : Ex → Z sg → Prop) : zJ (ls_gs_tLB_1.put x) (fun z => sC sy Tryz.prog GT (jcy) (Jbs) Tryz.f104.ntmps (Zb (za Tryz.f104) 0) z (rnd ls_gs_tLB_1 (czT 0 le_gs_tLB_1 JbE) (fun x => jaZ n x K) K)) = jaZ (n + 1) x K := by kernel_rfl
theorem Jes (z : Z sg) (K : Ex → Z sg → Prop) : (Jbs) (Zb (za Tryz.f104) 0) z K = ls_gs_tLB_1.get z (fun x => ∃ n, jaZ n x K) := by kernel_rfl
theorem zet : ∀ (o0 : Nat → Prop) (B : Bs sg), B.E.length ≤ 0 → ∀ z K, (Jbs) (Zb (za Tryz.f104) 0) z K → Sx.Sem sy Tryz.prog GT (ovD ro) o0 ro Tryz.f104.ntmps B (.loop (Zb (za Tryz.f104) 0)) z K :=
 jS (jdj) (zi (l := []) (by kernel_rfl) Zd) ls_gs_tLB_1 (by decide) (czT 0 le_gs_tLB_1 JbE) (fun _ _ hB => Zag 0 le_gs_tLB_1 JbE (Nat.le_trans hB (by decide)) (Nat.le_trans hB (by decide))) (fun _ _ h => h) (Zes) (Jes)
theorem zfy : Zcx sy Tryz.prog GT (ovD ro) ro (Jbs) 0 Tryz.f104.ntmps (za Tryz.f104) := zi (l := [(Zb (za Tryz.f104) 0)]) (by kernel_rfl) (zS (zet) Zd)
theorem ze2 (a0 : Bt) (a1 : Int) (k : W → Prop) : fnT sy Tryz.prog GT (jcy) (Jbs) Tryz.f104.ntmps (za Tryz.f104) [none] Tryz.f104.results.toList [.s a0, .i .u8 a1] k = zdx a0 a1 (fun r0 => k (.s r0)) := by kernel_rfl
theorem jfy : FO ro 104 (Jax (zdx)) := (zt (rc := [none]) (f := 104) (fn := Tryz.f104) (c := za Tryz.f104) (nt := Tryz.f104.ntmps) (res := Tryz.f104.results.toList) (C := jcy) (L := (Jbs)) (fun _ _ => rfl) Tryz.func104 (by kernel_rfl) rfl rfl (jdj) (zfy)).weak (by
 intro us k h
 unfold Jax at h
 split at h
 ·rw [ze2]; exact h
 ·exact h.elim)
abbrev Jj := Bt → Bt → (Bt → Prop) → Prop
def zy (A : Jj) (us : List W) (k : W → Prop) : Prop := match us with
 | [.s a0, .s a1] => A a0 a1 (fun r0 => k (.s r0))
 | _ => False
theorem zbU {A A2 : Jj} (h : FO ro 103 (zy A)) (hA : ∀ a0 a1 K, A2 a0 a1 K → A a0 a1 K) : FO ro 103 (zy A2) := h.weak (by
 intro us k h
 unfold zy at h ⊢
 split at h
 ·exact hA _ _ _ h
 ·exact h.elim)
def ZaZ (A104 : ZaF) (a0 : Bt) (a1 : Bt) (K : Bt → Prop) : Prop :=
 (((a0 == ([] : Bt)) = false → (((a1 == ([] : Bt)) = true → K a0) ∧ ((a1 == ([] : Bt)) = false → (((decide ((a1.length : Int) = (1 : Int))) = true → ((0 ≤ (0 : Int) ∧ (0 : Int) < (a1.length : Int)) ∧ (((decide (((a1.getD 0 0).toNat : Int) < (128 : Int))) = true → ((0 ≤ (0 : Int) ∧ (0 : Int) < (a1.length : Int)) ∧ (A104 a0 ((a1.getD 0 0).toNat : Int) (fun y1 => K y1)))) ∧ ((decide (((a1.getD 0 0).toNat : Int) < (128 : Int))) = false → False)))) ∧ ((decide ((a1.length : Int) = (1 : Int))) = false → False))))) ∧ ((a0 == ([] : Bt)) = true → K a0))
def JaZ (A104 : ZaF) : ji sg := tab [(104, con [none, none] (Jax A104)), (105, con [] noT), (106, con [] noT), (107, con [] noT)]
theorem ZcL (A104 : ZaF) (h104 : FO ro 104 (Jax A104)) (o0 : Nat → Prop) : Zj sy Tryz.prog GT (ovD ro) o0 ro (JaZ A104) := (ja (zc h104) (ja (zc (jfw 105)) (ja (zc (jfw 106)) (ja (zc (jfw 107)) Jc)))) o0
theorem JcL (A104 : ZaF) (a0 : Bt) (a1 : Bt) (k : W → Prop) : fnT sy Tryz.prog GT (JaZ A104) noL Tryz.f103.ntmps (za Tryz.f103) [none] Tryz.f103.results.toList [.s a0, .s a1] k = ZaZ A104 a0 a1 (fun r0 => k (.s r0)) := by kernel_rfl
theorem zc6 (A104 : ZaF) (h104 : FO ro 104 (Jax A104)) : FO ro 103 (zy (ZaZ A104)) := (zt (rc := [none]) (f := 103) (fn := Tryz.f103) (c := za Tryz.f103) (nt := Tryz.f103.ntmps) (res := Tryz.f103.results.toList) (C := JaZ A104) (L := noL) (fun _ _ => rfl) Tryz.func103 (by kernel_rfl) rfl rfl (ZcL A104 h104) (zi (l := []) (by kernel_rfl) Zd)).weak (by
 intro us k h
 unfold zy at h
 split at h
 ·rw [JcL]; exact h
 ·exact h.elim)
abbrev jbe := Bt → Int → (Int → Prop) → Prop
def za0 (A : jbe) (us : List W) (k : W → Prop) : Prop := match us with
 | [.s a0, .i .i64 a1] => A a0 a1 (fun r0 => k (.i .i64 r0))
 | _ => False
theorem zd0 {A A2 : jbe} (h : FO ro 95 (za0 A)) (hA : ∀ a0 a1 K, A2 a0 a1 K → A a0 a1 K) : FO ro 95 (za0 A2) := h.weak (by
 intro us k h
 unfold za0 at h ⊢
 split at h
 ·exact hA _ _ _ h
 ·exact h.elim)
def JaS (A103 : Jj) : Nat → Bt → Int → Int → Int → (Int → Prop) → Prop
 | 0, _, _, _, _, _ => False
 | n + 1, x5, x6, x25, x26, Ke => (((decide (x26 < x25)) = true → (I64 (x6 * 10) ∧ (((decide (x26 < (x5.length : Int))) = true → ((0 ≤ x26 ∧ x26 < (x5.length : Int)) ∧ (I64 (IntKind.u8.wrap (((x5.getD x26.toNat 0).toNat : Int) - (48 : Int))) ∧ (I64 ((x6 * 10) + (IntKind.u8.wrap (((x5.getD x26.toNat 0).toNat : Int) - (48 : Int)))) ∧ (I64 (x26 + 1) ∧ JaS A103 n x5 ((x6 * 10) + (IntKind.u8.wrap (((x5.getD x26.toNat 0).toNat : Int) - (48 : Int)))) x25 (x26 + 1) Ke))))) ∧ ((decide (x26 < (x5.length : Int))) = false → (I64 (x26 + 1) ∧ JaS A103 n x5 (x6 * 10) x25 (x26 + 1) Ke))))) ∧ ((decide (x26 < x25)) = false → Ke x6))
def jet (A103 : Jj) (a0 : Bt) (a1 : Int) (K : Int → Prop) : Prop :=
 (A103 a0 ([48] : Bt) (fun y1 => (I64 ((a0.length : Int) - (y1.length : Int)) ∧ (I64 (a1 - ((a0.length : Int) - (y1.length : Int))) ∧ (((y1 == ([] : Bt)) = false → (((decide ((a1 - ((a0.length : Int) - (y1.length : Int))) ≤ 0)) = true → K (0 : Int)) ∧ ((decide ((a1 - ((a0.length : Int) - (y1.length : Int))) ≤ 0)) = false → (((decide ((13 : Int) < (a1 - ((a0.length : Int) - (y1.length : Int))))) = true → K (1000000000000 : Int)) ∧ ((decide ((13 : Int) < (a1 - ((a0.length : Int) - (y1.length : Int))))) = false → (∃ m, JaS A103 m y1 (0 : Int) (a1 - ((a0.length : Int) - (y1.length : Int))) (0 : Int) (fun y2 => K (if (1000000000000 : Int) < y2 then (1000000000000 : Int) else y2)))))))) ∧ ((y1 == ([] : Bt)) = true → K (0 : Int)))))))
def jdx (A103 : Jj) : ji sg := tab [(103, con [none, none] (zy A103))]
theorem jd0 (A103 : Jj) (h103 : FO ro 103 (zy A103)) (o0 : Nat → Prop) : Zj sy Tryz.prog GT (ovD ro) o0 ro (jdx A103) := (ja (zc h103) Jc) o0
abbrev Zb8 : Type := ((Bt) × Int × Int × Int × Unit)
abbrev Yb_k_cNu_9 : Type := Unit
def ls_k_cNu_9 : LS sy Zb8 Yb_k_cNu_9 := ⟨[], Zf 5 (jax sy) (Zf 6 (jP sy .i64) (Zf 25 (jP sy .i64) (Zf 26 (jP sy .i64) (jab sy)))), Zab sy, 0, []⟩
def le_k_cNu_9 : LS sy (Int × Unit) Unit := ⟨[], Zf 6 (jP sy .i64) (jab sy), Zab sy, 0, []⟩
def Jb8 : LS sy Unit Unit := ⟨[], jab sy, Zab sy, 0, []⟩
def zbt (A103 : Jj) (n : Nat) (x : Zb8 × Yb_k_cNu_9) (K : Ex → Z sg → Prop) : Prop := JaS A103 n x.1.1 x.1.2.1 x.1.2.2.1 x.1.2.2.2.1 (fun y0 => K (.exit 0) (le_k_cNu_9.put ((y0, ()), ())))
def Zfy (A103 : Jj) (z : Z sg) (K : Ex → Z sg → Prop) : Prop := ls_k_cNu_9.get z (fun x => ∃ n, zbt A103 n x K)
def zb9 (A103 : Jj) : Z5 sg := Zc4 [(9, Zfy A103)]
theorem je2 (A103 : Jj) (n : Nat) (x : Zb8 × Yb_k_cNu_9) (K : Ex → Z sg → Prop) : zJ (ls_k_cNu_9.put x) (fun z => sC sy Tryz.prog GT (jdx A103) (zb9 A103) Tryz.f95.ntmps (Zb (za Tryz.f95) 0) z (rnd ls_k_cNu_9 (czT 0 le_k_cNu_9 Jb8) (fun x => zbt A103 n x K) K)) = zbt A103 (n + 1) x K := by kernel_rfl
theorem Ze2 (A103 : Jj) (z : Z sg) (K : Ex → Z sg → Prop) : (zb9 A103) (Zb (za Tryz.f95) 0) z K = ls_k_cNu_9.get z (fun x => ∃ n, zbt A103 n x K) := by kernel_rfl
theorem Je2 (A103 : Jj) (h103 : FO ro 103 (zy A103)) : ∀ (o0 : Nat → Prop) (B : Bs sg), B.E.length ≤ 0 → ∀ z K, (zb9 A103) (Zb (za Tryz.f95) 0) z K → Sx.Sem sy Tryz.prog GT (ovD ro) o0 ro Tryz.f95.ntmps B (.loop (Zb (za Tryz.f95) 0)) z K :=
 jS (jd0 A103 h103) (zi (l := []) (by kernel_rfl) Zd) ls_k_cNu_9 (by decide) (czT 0 le_k_cNu_9 Jb8) (fun _ _ hB => Zag 0 le_k_cNu_9 Jb8 (Nat.le_trans hB (by decide)) (Nat.le_trans hB (by decide))) (fun _ _ h => h) (je2 A103) (Ze2 A103)
theorem zf5 (A103 : Jj) (h103 : FO ro 103 (zy A103)) : Zcx sy Tryz.prog GT (ovD ro) ro (zb9 A103) 0 Tryz.f95.ntmps (za Tryz.f95) := zi (l := [(Zb (za Tryz.f95) 0)]) (by kernel_rfl) (zS (Je2 A103 h103) Zd)
theorem Jfy (A103 : Jj) (a0 : Bt) (a1 : Int) (k : W → Prop) : fnT sy Tryz.prog GT (jdx A103) (zb9 A103) Tryz.f95.ntmps (za Tryz.f95) [none] Tryz.f95.results.toList [.s a0, .i .i64 a1] k = jet A103 a0 a1 (fun r0 => k (.i .i64 r0)) := by kernel_rfl
theorem jf5 (A103 : Jj) (h103 : FO ro 103 (zy A103)) : FO ro 95 (za0 (jet A103)) := (zt (rc := [none]) (f := 95) (fn := Tryz.f95) (c := za Tryz.f95) (nt := Tryz.f95.ntmps) (res := Tryz.f95.results.toList) (C := jdx A103) (L := (zb9 A103)) (fun _ _ => rfl) Tryz.func95 (by kernel_rfl) rfl rfl (jd0 A103 h103) (zf5 A103 h103)).weak (by
 intro us k h
 unfold za0 at h
 split at h
 ·rw [Jfy]; exact h
 ·exact h.elim)
def Zd0 (A68 : Za) (A73 : zp) : ji sg := tab [(68, con [none, none] (jc A68)), (73, con [none] (Jy A73))]
theorem Zet (A68 : Za) (A73 : zp) (h68 : FO ro 68 (jc A68)) (h73 : FO ro 73 (Jy A73)) (o0 : Nat → Prop) : Zj sy Tryz.prog GT (ovD ro) o0 ro (Zd0 A68 A73) := (ja (zc h68) (ja (zc h73) Jc)) o0
def zo (A68 : Za) (A62 : jb) : Nat → Int → Bt → Int → (Int → Bt → Int → Prop) → Prop
 | 0, _, _, _, _ => False
 | n + 1, x3, c0_0, c1_0, Ke => (A68 c0_0 c1_0 (fun y1 => (A62 y1 (fun y2 => ((y2 = true → (I64 (c1_0 + 1) ∧ zo A68 A62 n x3 c0_0 (c1_0 + 1) Ke)) ∧ (y2 = false → Ke x3 c0_0 c1_0))))))
def zcM (A68 : Za) (A62 : jb) : ji sg := tab [(68, con [none, none] (jc A68)), (62, con [none] (zf A62))]
theorem jcM (A68 : Za) (A62 : jb) (h68 : FO ro 68 (jc A68)) (h62 : FO ro 62 (zf A62)) (o0 : Nat → Prop) : Zj sy Tryz.prog GT (ovD ro) o0 ro (zcM A68 A62) := (ja (zc h68) (ja (zc h62) Jc)) o0
abbrev Zbe : Type := (Unit × Unit × Int × Unit)
abbrev Yb_k_rNu_2_2 : Type := (((Bt) × Unit) × (Int × Unit) × Unit)
def ls_k_rNu_2_2 : LS sy Zbe Yb_k_rNu_2_2 := ⟨[], Zf 0 (Ja7 sy (.p 1 0)) (Zf 1 (Ja7 sy (.p 0 0)) (Zf 3 (jP sy .i64) (jab sy))), jag 0 (zs (jax sy) (jc4 sy)) (jag 1 (zs (jP sy .i64) (jc4 sy)) (Zab sy)), 2, []⟩
def le_k_rNu_2_2 : LS sy (Unit × Unit × Int × Unit) (((Bt) × Unit) × (Int × Unit) × Unit) := ⟨[], Zf 0 (Ja7 sy (.p 1 0)) (Zf 1 (Ja7 sy (.p 0 0)) (Zf 3 (jP sy .i64) (jab sy))), jag 0 (zs (jax sy) (jc4 sy)) (jag 1 (zs (jP sy .i64) (jc4 sy)) (Zab sy)), 2, []⟩
def Jbe : LS sy Unit Unit := ⟨[], jab sy, Zab sy, 2, []⟩
def JaF (A68 : Za) (A62 : jb) (n : Nat) (x : Zbe × Yb_k_rNu_2_2) (K : Ex → Z sg → Prop) : Prop := zo A68 A62 n x.1.2.2.1 x.2.1.1 x.2.2.1.1 (fun y0 y1 y2 => K (.exit 0) (le_k_rNu_2_2.put (((), (), y0, ()), ((y1, ()), (y2, ()), ()))))
def Jet (A68 : Za) (A62 : jb) (z : Z sg) (K : Ex → Z sg → Prop) : Prop := ls_k_rNu_2_2.get z (fun x => ∃ n, JaF A68 A62 n x K)
def zbf (A68 : Za) (A62 : jb) : Z5 sg := Zc4 [(2, Jet A68 A62)]
theorem Jd0 (A68 : Za) (A62 : jb) (n : Nat) (x : Zbe × Yb_k_rNu_2_2) (K : Ex → Z sg → Prop) : zJ (ls_k_rNu_2_2.put x) (fun z => sC sy Tryz.prog GT (zcM A68 A62) (zbf A68 A62) Tryz.f91.ntmps (Zb (za Tryz.f91) 0) z (rnd ls_k_rNu_2_2 (czT 0 le_k_rNu_2_2 Jbe) (fun x => JaF A68 A62 n x K) K)) = JaF A68 A62 (n + 1) x K := by kernel_rfl
theorem zd1 (A68 : Za) (A62 : jb) (z : Z sg) (K : Ex → Z sg → Prop) : (zbf A68 A62) (Zb (za Tryz.f91) 0) z K = ls_k_rNu_2_2.get z (fun x => ∃ n, JaF A68 A62 n x K) := by kernel_rfl
theorem jd1 (A68 : Za) (A62 : jb) (h68 : FO ro 68 (jc A68)) (h62 : FO ro 62 (zf A62)) : ∀ (o0 : Nat → Prop) (B : Bs sg), B.E.length ≤ 2 → ∀ z K, (zbf A68 A62) (Zb (za Tryz.f91) 0) z K → Sx.Sem sy Tryz.prog GT (ovD ro) o0 ro Tryz.f91.ntmps B (.loop (Zb (za Tryz.f91) 0)) z K :=
 jS (jcM A68 A62 h68 h62) (zi (l := []) (by kernel_rfl) Zd) ls_k_rNu_2_2 (by decide) (czT 0 le_k_rNu_2_2 Jbe) (fun _ _ hB => Zag 0 le_k_rNu_2_2 Jbe (Nat.le_trans hB (by decide)) (Nat.le_trans hB (by decide))) (fun _ _ h => h) (Jd0 A68 A62) (zd1 A68 A62)
theorem ze3 (A68 : Za) (A62 : jb) (h68 : FO ro 68 (jc A68)) (h62 : FO ro 62 (zf A62)) : Zcx sy Tryz.prog GT (ovD ro) ro (zbf A68 A62) 2 Tryz.f91.ntmps (za Tryz.f91) := zi (l := [(Zb (za Tryz.f91) 0)]) (by kernel_rfl) (zS (jd1 A68 A62 h68 h62) Zd)
abbrev jbf := Bt → Int → (Int → Bool → Int → Prop) → Prop
def ja0 (A : jbf) (us : List W) (k : W → Prop) : Prop := match us with
 | [.s a0, .i .i64 a1] => A a0 a1 (fun r0 r1 r2 => k (.t [.i .i64 r0, .b r1, .i .i64 r2]))
 | _ => False
theorem Zd1 {A A2 : jbf} (h : FO ro 75 (ja0 A)) (hA : ∀ a0 a1 K, A2 a0 a1 K → A a0 a1 K) : FO ro 75 (ja0 A2) := h.weak (by
 intro us k h
 unfold ja0 at h ⊢
 split at h
 ·exact hA _ _ _ h
 ·exact h.elim)
def zeu (A74 : Zam) (A68 : Za) (A92 : Zs) (A93 : ZD) (A94 : zbe) (A95 : jbe) (A73 : zp) (A62 : jb) (a0 : Bt) (a1 : Int) (K : Int → Bool → Int → Prop) : Prop :=
 (A68 a0 a1 (fun y1 => (A68 a0 a1 (fun y2 => (A73 y2 (fun y3 => ((y3 = true → (I64 (a1 + 1) ∧ (∃ m, zo A68 A62 m (a1 + 1) a0 (a1 + 1) (fun y4 y5 y6 => ((0 ≤ y4 ∧ y4 ≤ y6 ∧ y6 ≤ (y5.length : Int)) ∧ (A74 y5 y6 (fun y7 => ((y7 = true → (I64 (y6 + 1) ∧ (∃ m, zo A68 A62 m (y6 + 1) y5 (y6 + 1) (fun y8 y9 y10 => ((0 ≤ y8 ∧ y8 ≤ y10 ∧ y10 ≤ (y9.length : Int)) ∧ (A68 y9 y10 (fun y11 => (A92 y11 (fun y12 => ((y12 = true → (I64 (y10 + 1) ∧ (A93 y9 (y10 + 1) (fun y13 => ((y13 = true → (I64 (y10 + 1) ∧ (A68 y9 (y10 + 1) (fun y14 => (A68 y9 (y10 + 1) (fun y15 => (A73 y15 (fun y16 => ((y16 = true → (I64 ((y10 + 1) + 1) ∧ (∃ m, zo A68 A62 m ((y10 + 1) + 1) y9 ((y10 + 1) + 1) (fun y17 y18 y19 => ((0 ≤ y17 ∧ y17 ≤ y19 ∧ y19 ≤ (y18.length : Int)) ∧ (A94 ((y18.drop y17.toNat).take (y19.toNat - y17.toNat)) (fun y20 => (((decide (y14 = 45)) = true → (I64 (0 - y20) ∧ (((y5.drop y4.toNat).take (y6.toNat - y4.toNat)).length + ((y9.drop y8.toNat).take (y10.toNat - y8.toNat)).length ≤ 1099511627776 ∧ (I64 ((((y5.drop y4.toNat).take (y6.toNat - y4.toNat)).length : Int) + (0 - y20)) ∧ (I64 (((((y5.drop y4.toNat).take (y6.toNat - y4.toNat)).length : Int) + (0 - y20)) + 3) ∧ (A95 (((y5.drop y4.toNat).take (y6.toNat - y4.toNat)) ++ ((y9.drop y8.toNat).take (y10.toNat - y8.toNat))) (((((y5.drop y4.toNat).take (y6.toNat - y4.toNat)).length : Int) + (0 - y20)) + 3) (fun y21 => (((decide (y1 = 45)) = true → (I64 (0 - y21) ∧ K (0 - y21) false y19)) ∧ ((decide (y1 = 45)) = false → K y21 false y19))))))))) ∧ ((decide (y14 = 45)) = false → (((y5.drop y4.toNat).take (y6.toNat - y4.toNat)).length + ((y9.drop y8.toNat).take (y10.toNat - y8.toNat)).length ≤ 1099511627776 ∧ (I64 ((((y5.drop y4.toNat).take (y6.toNat - y4.toNat)).length : Int) + y20) ∧ (I64 (((((y5.drop y4.toNat).take (y6.toNat - y4.toNat)).length : Int) + y20) + (3 : Int)) ∧ (A95 (((y5.drop y4.toNat).take (y6.toNat - y4.toNat)) ++ ((y9.drop y8.toNat).take (y10.toNat - y8.toNat))) (((((y5.drop y4.toNat).take (y6.toNat - y4.toNat)).length : Int) + y20) + (3 : Int)) (fun y22 => (((decide (y1 = 45)) = true → (I64 (0 - y22) ∧ K (0 - y22) false y19)) ∧ ((decide (y1 = 45)) = false → K y22 false y19)))))))))))))))) ∧ (y16 = false → (∃ m, zo A68 A62 m (y10 + 1) y9 (y10 + 1) (fun y23 y24 y25 => ((0 ≤ y23 ∧ y23 ≤ y25 ∧ y25 ≤ (y24.length : Int)) ∧ (A94 ((y24.drop y23.toNat).take (y25.toNat - y23.toNat)) (fun y26 => (((decide (y14 = 45)) = true → (I64 (0 - y26) ∧ (((y5.drop y4.toNat).take (y6.toNat - y4.toNat)).length + ((y9.drop y8.toNat).take (y10.toNat - y8.toNat)).length ≤ 1099511627776 ∧ (I64 ((((y5.drop y4.toNat).take (y6.toNat - y4.toNat)).length : Int) + (0 - y26)) ∧ (I64 (((((y5.drop y4.toNat).take (y6.toNat - y4.toNat)).length : Int) + (0 - y26)) + 3) ∧ (A95 (((y5.drop y4.toNat).take (y6.toNat - y4.toNat)) ++ ((y9.drop y8.toNat).take (y10.toNat - y8.toNat))) (((((y5.drop y4.toNat).take (y6.toNat - y4.toNat)).length : Int) + (0 - y26)) + 3) (fun y27 => (((decide (y1 = 45)) = true → (I64 (0 - y27) ∧ K (0 - y27) false y25)) ∧ ((decide (y1 = 45)) = false → K y27 false y25))))))))) ∧ ((decide (y14 = 45)) = false → (((y5.drop y4.toNat).take (y6.toNat - y4.toNat)).length + ((y9.drop y8.toNat).take (y10.toNat - y8.toNat)).length ≤ 1099511627776 ∧ (I64 ((((y5.drop y4.toNat).take (y6.toNat - y4.toNat)).length : Int) + y26) ∧ (I64 (((((y5.drop y4.toNat).take (y6.toNat - y4.toNat)).length : Int) + y26) + (3 : Int)) ∧ (A95 (((y5.drop y4.toNat).take (y6.toNat - y4.toNat)) ++ ((y9.drop y8.toNat).take (y10.toNat - y8.toNat))) (((((y5.drop y4.toNat).take (y6.toNat - y4.toNat)).length : Int) + y26) + (3 : Int)) (fun y28 => (((decide (y1 = 45)) = true → (I64 (0 - y28) ∧ K (0 - y28) false y25)) ∧ ((decide (y1 = 45)) = false → K y28 false y25)))))))))))))))))))))))) ∧ (y13 = false → (((y5.drop y4.toNat).take (y6.toNat - y4.toNat)).length + ((y9.drop y8.toNat).take (y10.toNat - y8.toNat)).length ≤ 1099511627776 ∧ (I64 ((((y5.drop y4.toNat).take (y6.toNat - y4.toNat)).length : Int) + (0 : Int)) ∧ (I64 (((((y5.drop y4.toNat).take (y6.toNat - y4.toNat)).length : Int) + (0 : Int)) + 3) ∧ (A95 (((y5.drop y4.toNat).take (y6.toNat - y4.toNat)) ++ ((y9.drop y8.toNat).take (y10.toNat - y8.toNat))) (((((y5.drop y4.toNat).take (y6.toNat - y4.toNat)).length : Int) + (0 : Int)) + 3) (fun y29 => (((decide (y1 = 45)) = true → (I64 (0 - y29) ∧ K (0 - y29) false y10)) ∧ ((decide (y1 = 45)) = false → K y29 false y10))))))))))))) ∧ (y12 = false → (((y5.drop y4.toNat).take (y6.toNat - y4.toNat)).length + ((y9.drop y8.toNat).take (y10.toNat - y8.toNat)).length ≤ 1099511627776 ∧ (I64 ((((y5.drop y4.toNat).take (y6.toNat - y4.toNat)).length : Int) + (0 : Int)) ∧ (I64 (((((y5.drop y4.toNat).take (y6.toNat - y4.toNat)).length : Int) + (0 : Int)) + 3) ∧ (A95 (((y5.drop y4.toNat).take (y6.toNat - y4.toNat)) ++ ((y9.drop y8.toNat).take (y10.toNat - y8.toNat))) (((((y5.drop y4.toNat).take (y6.toNat - y4.toNat)).length : Int) + (0 : Int)) + 3) (fun y30 => (((decide (y1 = 45)) = true → (I64 (0 - y30) ∧ K (0 - y30) false y10)) ∧ ((decide (y1 = 45)) = false → K y30 false y10)))))))))))))))))) ∧ (y7 = false → (A68 y5 y6 (fun y31 => (A92 y31 (fun y32 => ((y32 = true → (I64 (y6 + 1) ∧ (A93 y5 (y6 + 1) (fun y33 => ((y33 = true → (I64 (y6 + 1) ∧ (A68 y5 (y6 + 1) (fun y34 => (A68 y5 (y6 + 1) (fun y35 => (A73 y35 (fun y36 => ((y36 = true → (I64 ((y6 + 1) + 1) ∧ (∃ m, zo A68 A62 m ((y6 + 1) + 1) y5 ((y6 + 1) + 1) (fun y37 y38 y39 => ((0 ≤ y37 ∧ y37 ≤ y39 ∧ y39 ≤ (y38.length : Int)) ∧ (A94 ((y38.drop y37.toNat).take (y39.toNat - y37.toNat)) (fun y40 => (((decide (y34 = 45)) = true → (I64 (0 - y40) ∧ (((y5.drop y4.toNat).take (y6.toNat - y4.toNat)).length + ([] : Bt).length ≤ 1099511627776 ∧ (I64 ((((y5.drop y4.toNat).take (y6.toNat - y4.toNat)).length : Int) + (0 - y40)) ∧ (I64 (((((y5.drop y4.toNat).take (y6.toNat - y4.toNat)).length : Int) + (0 - y40)) + 3) ∧ (A95 (((y5.drop y4.toNat).take (y6.toNat - y4.toNat)) ++ ([] : Bt)) (((((y5.drop y4.toNat).take (y6.toNat - y4.toNat)).length : Int) + (0 - y40)) + 3) (fun y41 => (((decide (y1 = 45)) = true → (I64 (0 - y41) ∧ K (0 - y41) false y39)) ∧ ((decide (y1 = 45)) = false → K y41 false y39))))))))) ∧ ((decide (y34 = 45)) = false → (((y5.drop y4.toNat).take (y6.toNat - y4.toNat)).length + ([] : Bt).length ≤ 1099511627776 ∧ (I64 ((((y5.drop y4.toNat).take (y6.toNat - y4.toNat)).length : Int) + y40) ∧ (I64 (((((y5.drop y4.toNat).take (y6.toNat - y4.toNat)).length : Int) + y40) + (3 : Int)) ∧ (A95 (((y5.drop y4.toNat).take (y6.toNat - y4.toNat)) ++ ([] : Bt)) (((((y5.drop y4.toNat).take (y6.toNat - y4.toNat)).length : Int) + y40) + (3 : Int)) (fun y42 => (((decide (y1 = 45)) = true → (I64 (0 - y42) ∧ K (0 - y42) false y39)) ∧ ((decide (y1 = 45)) = false → K y42 false y39)))))))))))))))) ∧ (y36 = false → (∃ m, zo A68 A62 m (y6 + 1) y5 (y6 + 1) (fun y43 y44 y45 => ((0 ≤ y43 ∧ y43 ≤ y45 ∧ y45 ≤ (y44.length : Int)) ∧ (A94 ((y44.drop y43.toNat).take (y45.toNat - y43.toNat)) (fun y46 => (((decide (y34 = 45)) = true → (I64 (0 - y46) ∧ (((y5.drop y4.toNat).take (y6.toNat - y4.toNat)).length + ([] : Bt).length ≤ 1099511627776 ∧ (I64 ((((y5.drop y4.toNat).take (y6.toNat - y4.toNat)).length : Int) + (0 - y46)) ∧ (I64 (((((y5.drop y4.toNat).take (y6.toNat - y4.toNat)).length : Int) + (0 - y46)) + 3) ∧ (A95 (((y5.drop y4.toNat).take (y6.toNat - y4.toNat)) ++ ([] : Bt)) (((((y5.drop y4.toNat).take (y6.toNat - y4.toNat)).length : Int) + (0 - y46)) + 3) (fun y47 => (((decide (y1 = 45)) = true → (I64 (0 - y47) ∧ K (0 - y47) false y45)) ∧ ((decide (y1 = 45)) = false → K y47 false y45))))))))) ∧ ((decide (y34 = 45)) = false → (((y5.drop y4.toNat).take (y6.toNat - y4.toNat)).length + ([] : Bt).length ≤ 1099511627776 ∧ (I64 ((((y5.drop y4.toNat).take (y6.toNat - y4.toNat)).length : Int) + y46) ∧ (I64 (((((y5.drop y4.toNat).take (y6.toNat - y4.toNat)).length : Int) + y46) + (3 : Int)) ∧ (A95 (((y5.drop y4.toNat).take (y6.toNat - y4.toNat)) ++ ([] : Bt)) (((((y5.drop y4.toNat).take (y6.toNat - y4.toNat)).length : Int) + y46) + (3 : Int)) (fun y48 => (((decide (y1 = 45)) = true → (I64 (0 - y48) ∧ K (0 - y48) false y45)) ∧ ((decide (y1 = 45)) = false → K y48 false y45)))))))))))))))))))))))) ∧ (y33 = false → (((y5.drop y4.toNat).take (y6.toNat - y4.toNat)).length + ([] : Bt).length ≤ 1099511627776 ∧ (I64 ((((y5.drop y4.toNat).take (y6.toNat - y4.toNat)).length : Int) + (0 : Int)) ∧ (I64 (((((y5.drop y4.toNat).take (y6.toNat - y4.toNat)).length : Int) + (0 : Int)) + 3) ∧ (A95 (((y5.drop y4.toNat).take (y6.toNat - y4.toNat)) ++ ([] : Bt)) (((((y5.drop y4.toNat).take (y6.toNat - y4.toNat)).length : Int) + (0 : Int)) + 3) (fun y49 => (((decide (y1 = 45)) = true → (I64 (0 - y49) ∧ K (0 - y49) true y6)) ∧ ((decide (y1 = 45)) = false → K y49 true y6))))))))))))) ∧ (y32 = false → (((y5.drop y4.toNat).take (y6.toNat - y4.toNat)).length + ([] : Bt).length ≤ 1099511627776 ∧ (I64 ((((y5.drop y4.toNat).take (y6.toNat - y4.toNat)).length : Int) + (0 : Int)) ∧ (I64 (((((y5.drop y4.toNat).take (y6.toNat - y4.toNat)).length : Int) + (0 : Int)) + 3) ∧ (A95 (((y5.drop y4.toNat).take (y6.toNat - y4.toNat)) ++ ([] : Bt)) (((((y5.drop y4.toNat).take (y6.toNat - y4.toNat)).length : Int) + (0 : Int)) + 3) (fun y50 => (((decide (y1 = 45)) = true → (I64 (0 - y50) ∧ K (0 - y50) true y6)) ∧ ((decide (y1 = 45)) = false → K y50 true y6)))))))))))))))))))))) ∧ (y3 = false → (∃ m, zo A68 A62 m a1 a0 a1 (fun y51 y52 y53 => ((0 ≤ y51 ∧ y51 ≤ y53 ∧ y53 ≤ (y52.length : Int)) ∧ (A74 y52 y53 (fun y54 => ((y54 = true → (I64 (y53 + 1) ∧ (∃ m, zo A68 A62 m (y53 + 1) y52 (y53 + 1) (fun y55 y56 y57 => ((0 ≤ y55 ∧ y55 ≤ y57 ∧ y57 ≤ (y56.length : Int)) ∧ (A68 y56 y57 (fun y58 => (A92 y58 (fun y59 => ((y59 = true → (I64 (y57 + 1) ∧ (A93 y56 (y57 + 1) (fun y60 => ((y60 = true → (I64 (y57 + 1) ∧ (A68 y56 (y57 + 1) (fun y61 => (A68 y56 (y57 + 1) (fun y62 => (A73 y62 (fun y63 => ((y63 = true → (I64 ((y57 + 1) + 1) ∧ (∃ m, zo A68 A62 m ((y57 + 1) + 1) y56 ((y57 + 1) + 1) (fun y64 y65 y66 => ((0 ≤ y64 ∧ y64 ≤ y66 ∧ y66 ≤ (y65.length : Int)) ∧ (A94 ((y65.drop y64.toNat).take (y66.toNat - y64.toNat)) (fun y67 => (((decide (y61 = 45)) = true → (I64 (0 - y67) ∧ (((y52.drop y51.toNat).take (y53.toNat - y51.toNat)).length + ((y56.drop y55.toNat).take (y57.toNat - y55.toNat)).length ≤ 1099511627776 ∧ (I64 ((((y52.drop y51.toNat).take (y53.toNat - y51.toNat)).length : Int) + (0 - y67)) ∧ (I64 (((((y52.drop y51.toNat).take (y53.toNat - y51.toNat)).length : Int) + (0 - y67)) + 3) ∧ (A95 (((y52.drop y51.toNat).take (y53.toNat - y51.toNat)) ++ ((y56.drop y55.toNat).take (y57.toNat - y55.toNat))) (((((y52.drop y51.toNat).take (y53.toNat - y51.toNat)).length : Int) + (0 - y67)) + 3) (fun y68 => (((decide (y1 = 45)) = true → (I64 (0 - y68) ∧ K (0 - y68) false y66)) ∧ ((decide (y1 = 45)) = false → K y68 false y66))))))))) ∧ ((decide (y61 = 45)) = false → (((y52.drop y51.toNat).take (y53.toNat - y51.toNat)).length + ((y56.drop y55.toNat).take (y57.toNat - y55.toNat)).length ≤ 1099511627776 ∧ (I64 ((((y52.drop y51.toNat).take (y53.toNat - y51.toNat)).length : Int) + y67) ∧ (I64 (((((y52.drop y51.toNat).take (y53.toNat - y51.toNat)).length : Int) + y67) + (3 : Int)) ∧ (A95 (((y52.drop y51.toNat).take (y53.toNat - y51.toNat)) ++ ((y56.drop y55.toNat).take (y57.toNat - y55.toNat))) (((((y52.drop y51.toNat).take (y53.toNat - y51.toNat)).length : Int) + y67) + (3 : Int)) (fun y69 => (((decide (y1 = 45)) = true → (I64 (0 - y69) ∧ K (0 - y69) false y66)) ∧ ((decide (y1 = 45)) = false → K y69 false y66)))))))))))))))) ∧ (y63 = false → (∃ m, zo A68 A62 m (y57 + 1) y56 (y57 + 1) (fun y70 y71 y72 => ((0 ≤ y70 ∧ y70 ≤ y72 ∧ y72 ≤ (y71.length : Int)) ∧ (A94 ((y71.drop y70.toNat).take (y72.toNat - y70.toNat)) (fun y73 => (((decide (y61 = 45)) = true → (I64 (0 - y73) ∧ (((y52.drop y51.toNat).take (y53.toNat - y51.toNat)).length + ((y56.drop y55.toNat).take (y57.toNat - y55.toNat)).length ≤ 1099511627776 ∧ (I64 ((((y52.drop y51.toNat).take (y53.toNat - y51.toNat)).length : Int) + (0 - y73)) ∧ (I64 (((((y52.drop y51.toNat).take (y53.toNat - y51.toNat)).length : Int) + (0 - y73)) + 3) ∧ (A95 (((y52.drop y51.toNat).take (y53.toNat - y51.toNat)) ++ ((y56.drop y55.toNat).take (y57.toNat - y55.toNat))) (((((y52.drop y51.toNat).take (y53.toNat - y51.toNat)).length : Int) + (0 - y73)) + 3) (fun y74 => (((decide (y1 = 45)) = true → (I64 (0 - y74) ∧ K (0 - y74) false y72)) ∧ ((decide (y1 = 45)) = false → K y74 false y72))))))))) ∧ ((decide (y61 = 45)) = false → (((y52.drop y51.toNat).take (y53.toNat - y51.toNat)).length + ((y56.drop y55.toNat).take (y57.toNat - y55.toNat)).length ≤ 1099511627776 ∧ (I64 ((((y52.drop y51.toNat).take (y53.toNat - y51.toNat)).length : Int) + y73) ∧ (I64 (((((y52.drop y51.toNat).take (y53.toNat - y51.toNat)).length : Int) + y73) + (3 : Int)) ∧ (A95 (((y52.drop y51.toNat).take (y53.toNat - y51.toNat)) ++ ((y56.drop y55.toNat).take (y57.toNat - y55.toNat))) (((((y52.drop y51.toNat).take (y53.toNat - y51.toNat)).length : Int) + y73) + (3 : Int)) (fun y75 => (((decide (y1 = 45)) = true → (I64 (0 - y75) ∧ K (0 - y75) false y72)) ∧ ((decide (y1 = 45)) = false → K y75 false y72)))))))))))))))))))))))) ∧ (y60 = false → (((y52.drop y51.toNat).take (y53.toNat - y51.toNat)).length + ((y56.drop y55.toNat).take (y57.toNat - y55.toNat)).length ≤ 1099511627776 ∧ (I64 ((((y52.drop y51.toNat).take (y53.toNat - y51.toNat)).length : Int) + (0 : Int)) ∧ (I64 (((((y52.drop y51.toNat).take (y53.toNat - y51.toNat)).length : Int) + (0 : Int)) + 3) ∧ (A95 (((y52.drop y51.toNat).take (y53.toNat - y51.toNat)) ++ ((y56.drop y55.toNat).take (y57.toNat - y55.toNat))) (((((y52.drop y51.toNat).take (y53.toNat - y51.toNat)).length : Int) + (0 : Int)) + 3) (fun y76 => (((decide (y1 = 45)) = true → (I64 (0 - y76) ∧ K (0 - y76) false y57)) ∧ ((decide (y1 = 45)) = false → K y76 false y57))))))))))))) ∧ (y59 = false → (((y52.drop y51.toNat).take (y53.toNat - y51.toNat)).length + ((y56.drop y55.toNat).take (y57.toNat - y55.toNat)).length ≤ 1099511627776 ∧ (I64 ((((y52.drop y51.toNat).take (y53.toNat - y51.toNat)).length : Int) + (0 : Int)) ∧ (I64 (((((y52.drop y51.toNat).take (y53.toNat - y51.toNat)).length : Int) + (0 : Int)) + 3) ∧ (A95 (((y52.drop y51.toNat).take (y53.toNat - y51.toNat)) ++ ((y56.drop y55.toNat).take (y57.toNat - y55.toNat))) (((((y52.drop y51.toNat).take (y53.toNat - y51.toNat)).length : Int) + (0 : Int)) + 3) (fun y77 => (((decide (y1 = 45)) = true → (I64 (0 - y77) ∧ K (0 - y77) false y57)) ∧ ((decide (y1 = 45)) = false → K y77 false y57)))))))))))))))))) ∧ (y54 = false → (A68 y52 y53 (fun y78 => (A92 y78 (fun y79 => ((y79 = true → (I64 (y53 + 1) ∧ (A93 y52 (y53 + 1) (fun y80 => ((y80 = true → (I64 (y53 + 1) ∧ (A68 y52 (y53 + 1) (fun y81 => (A68 y52 (y53 + 1) (fun y82 => (A73 y82 (fun y83 => ((y83 = true → (I64 ((y53 + 1) + 1) ∧ (∃ m, zo A68 A62 m ((y53 + 1) + 1) y52 ((y53 + 1) + 1) (fun y84 y85 y86 => ((0 ≤ y84 ∧ y84 ≤ y86 ∧ y86 ≤ (y85.length : Int)) ∧ (A94 ((y85.drop y84.toNat).take (y86.toNat - y84.toNat)) (fun y87 => (((decide (y81 = 45)) = true → (I64 (0 - y87) ∧ (((y52.drop y51.toNat).take (y53.toNat - y51.toNat)).length + ([] : Bt).length ≤ 1099511627776 ∧ (I64 ((((y52.drop y51.toNat).take (y53.toNat - y51.toNat)).length : Int) + (0 - y87)) ∧ (I64 (((((y52.drop y51.toNat).take (y53.toNat - y51.toNat)).length : Int) + (0 - y87)) + 3) ∧ (A95 (((y52.drop y51.toNat).take (y53.toNat - y51.toNat)) ++ ([] : Bt)) (((((y52.drop y51.toNat).take (y53.toNat - y51.toNat)).length : Int) + (0 - y87)) + 3) (fun y88 => (((decide (y1 = 45)) = true → (I64 (0 - y88) ∧ K (0 - y88) false y86)) ∧ ((decide (y1 = 45)) = false → K y88 false y86))))))))) ∧ ((decide (y81 = 45)) = false → (((y52.drop y51.toNat).take (y53.toNat - y51.toNat)).length + ([] : Bt).length ≤ 1099511627776 ∧ (I64 ((((y52.drop y51.toNat).take (y53.toNat - y51.toNat)).length : Int) + y87) ∧ (I64 (((((y52.drop y51.toNat).take (y53.toNat - y51.toNat)).length : Int) + y87) + (3 : Int)) ∧ (A95 (((y52.drop y51.toNat).take (y53.toNat - y51.toNat)) ++ ([] : Bt)) (((((y52.drop y51.toNat).take (y53.toNat - y51.toNat)).length : Int) + y87) + (3 : Int)) (fun y89 => (((decide (y1 = 45)) = true → (I64 (0 - y89) ∧ K (0 - y89) false y86)) ∧ ((decide (y1 = 45)) = false → K y89 false y86)))))))))))))))) ∧ (y83 = false → (∃ m, zo A68 A62 m (y53 + 1) y52 (y53 + 1) (fun y90 y91 y92 => ((0 ≤ y90 ∧ y90 ≤ y92 ∧ y92 ≤ (y91.length : Int)) ∧ (A94 ((y91.drop y90.toNat).take (y92.toNat - y90.toNat)) (fun y93 => (((decide (y81 = 45)) = true → (I64 (0 - y93) ∧ (((y52.drop y51.toNat).take (y53.toNat - y51.toNat)).length + ([] : Bt).length ≤ 1099511627776 ∧ (I64 ((((y52.drop y51.toNat).take (y53.toNat - y51.toNat)).length : Int) + (0 - y93)) ∧ (I64 (((((y52.drop y51.toNat).take (y53.toNat - y51.toNat)).length : Int) + (0 - y93)) + 3) ∧ (A95 (((y52.drop y51.toNat).take (y53.toNat - y51.toNat)) ++ ([] : Bt)) (((((y52.drop y51.toNat).take (y53.toNat - y51.toNat)).length : Int) + (0 - y93)) + 3) (fun y94 => (((decide (y1 = 45)) = true → (I64 (0 - y94) ∧ K (0 - y94) false y92)) ∧ ((decide (y1 = 45)) = false → K y94 false y92))))))))) ∧ ((decide (y81 = 45)) = false → (((y52.drop y51.toNat).take (y53.toNat - y51.toNat)).length + ([] : Bt).length ≤ 1099511627776 ∧ (I64 ((((y52.drop y51.toNat).take (y53.toNat - y51.toNat)).length : Int) + y93) ∧ (I64 (((((y52.drop y51.toNat).take (y53.toNat - y51.toNat)).length : Int) + y93) + (3 : Int)) ∧ (A95 (((y52.drop y51.toNat).take (y53.toNat - y51.toNat)) ++ ([] : Bt)) (((((y52.drop y51.toNat).take (y53.toNat - y51.toNat)).length : Int) + y93) + (3 : Int)) (fun y95 => (((decide (y1 = 45)) = true → (I64 (0 - y95) ∧ K (0 - y95) false y92)) ∧ ((decide (y1 = 45)) = false → K y95 false y92)))))))))))))))))))))))) ∧ (y80 = false → (((y52.drop y51.toNat).take (y53.toNat - y51.toNat)).length + ([] : Bt).length ≤ 1099511627776 ∧ (I64 ((((y52.drop y51.toNat).take (y53.toNat - y51.toNat)).length : Int) + (0 : Int)) ∧ (I64 (((((y52.drop y51.toNat).take (y53.toNat - y51.toNat)).length : Int) + (0 : Int)) + 3) ∧ (A95 (((y52.drop y51.toNat).take (y53.toNat - y51.toNat)) ++ ([] : Bt)) (((((y52.drop y51.toNat).take (y53.toNat - y51.toNat)).length : Int) + (0 : Int)) + 3) (fun y96 => (((decide (y1 = 45)) = true → (I64 (0 - y96) ∧ K (0 - y96) true y53)) ∧ ((decide (y1 = 45)) = false → K y96 true y53))))))))))))) ∧ (y79 = false → (((y52.drop y51.toNat).take (y53.toNat - y51.toNat)).length + ([] : Bt).length ≤ 1099511627776 ∧ (I64 ((((y52.drop y51.toNat).take (y53.toNat - y51.toNat)).length : Int) + (0 : Int)) ∧ (I64 (((((y52.drop y51.toNat).take (y53.toNat - y51.toNat)).length : Int) + (0 : Int)) + 3) ∧ (A95 (((y52.drop y51.toNat).take (y53.toNat - y51.toNat)) ++ ([] : Bt)) (((((y52.drop y51.toNat).take (y53.toNat - y51.toNat)).length : Int) + (0 : Int)) + 3) (fun y97 => (((decide (y1 = 45)) = true → (I64 (0 - y97) ∧ K (0 - y97) true y53)) ∧ ((decide (y1 = 45)) = false → K y97 true y53))))))))))))))))))))))))))))
def jeu (A74 : Zam) (A68 : Za) (A92 : Zs) (A93 : ZD) (A94 : zbe) (A95 : jbe) (A73 : zp) (A62 : jb) : ji sg := tab [(74, con [none, none] (Zas A74)), (68, con [none, none] (jc A68)), (92, con [none] (Jo A92)), (93, con [none, none] (Jx A93)), (94, con [none] (JaY A94)), (95, con [none, none] (za0 A95)), (90, inl sy Tryz.prog GT (Zd0 A68 A73) noL 1000 Tryz.f90.ntmps (za Tryz.f90) Tryz.f90.results.toList), (91, inl sy Tryz.prog GT (zcM A68 A62) (zbf A68 A62) 2 Tryz.f91.ntmps (za Tryz.f91) Tryz.f91.results.toList)]
theorem zfz (A74 : Zam) (A68 : Za) (A92 : Zs) (A93 : ZD) (A94 : zbe) (A95 : jbe) (A73 : zp) (A62 : jb) (h74 : FO ro 74 (Zas A74)) (h68 : FO ro 68 (jc A68)) (h92 : FO ro 92 (Jo A92)) (h93 : FO ro 93 (Jx A93)) (h94 : FO ro 94 (JaY A94)) (h95 : FO ro 95 (za0 A95)) (h73 : FO ro 73 (Jy A73)) (h62 : FO ro 62 (zf A62)) (o0 : Nat → Prop) : Zj sy Tryz.prog GT (ovD ro) o0 ro (jeu A74 A68 A92 A93 A94 A95 A73 A62) := (ja (zc h74) (ja (zc h68) (ja (zc h92) (ja (zc h93) (ja (zc h94) (ja (zc h95) (ja (jcJ (f := 90) (fn := Tryz.f90) (fun _ _ => rfl) Tryz.func90 (by kernel_rfl) rfl rfl (Zet A68 A73 h68 h73) (zi (l := []) (by kernel_rfl) Zd)) (ja (jcJ (f := 91) (fn := Tryz.f91) (fun _ _ => rfl) Tryz.func91 (by kernel_rfl) rfl rfl (jcM A68 A62 h68 h62) (ze3 A68 A62 h68 h62)) Jc)))))))) o0
theorem jfz (A74 : Zam) (A68 : Za) (A92 : Zs) (A93 : ZD) (A94 : zbe) (A95 : jbe) (A73 : zp) (A62 : jb) (a0 : Bt) (a1 : Int) (k : W → Prop) : fnT sy Tryz.prog GT (jeu A74 A68 A92 A93 A94 A95 A73 A62) noL Tryz.f75.ntmps (za Tryz.f75) [none, none, none] Tryz.f75.results.toList [.s a0, .i .i64 a1] k = zeu A74 A68 A92 A93 A94 A95 A73 A62 a0 a1 (fun r0 r1 r2 => k (.t [.i .i64 r0, .b r1, .i .i64 r2])) := by kernel_rfl
theorem Zf5 (A74 : Zam) (A68 : Za) (A92 : Zs) (A93 : ZD) (A94 : zbe) (A95 : jbe) (A73 : zp) (A62 : jb) (h74 : FO ro 74 (Zas A74)) (h68 : FO ro 68 (jc A68)) (h92 : FO ro 92 (Jo A92)) (h93 : FO ro 93 (Jx A93)) (h94 : FO ro 94 (JaY A94)) (h95 : FO ro 95 (za0 A95)) (h73 : FO ro 73 (Jy A73)) (h62 : FO ro 62 (zf A62)) : FO ro 75 (ja0 (zeu A74 A68 A92 A93 A94 A95 A73 A62)) := (zt (rc := [none, none, none]) (f := 75) (fn := Tryz.f75) (c := za Tryz.f75) (nt := Tryz.f75.ntmps) (res := Tryz.f75.results.toList) (C := jeu A74 A68 A92 A93 A94 A95 A73 A62) (L := noL) (fun _ _ => rfl) Tryz.func75 (by kernel_rfl) rfl rfl (zfz A74 A68 A92 A93 A94 A95 A73 A62 h74 h68 h92 h93 h94 h95 h73 h62) (zi (l := []) (by kernel_rfl) Zd)).weak (by
 intro us k h
 unfold ja0 at h
 split at h
 ·rw [jfz]; exact h
 ·exact h.elim)
abbrev zU := Int → (Bool → Prop) → Prop
def ZL (A : zU) (us : List W) (k : W → Prop) : Prop := match us with
 | [.i .u8 a0] => A a0 (fun r0 => k (.b r0))
 | _ => False
theorem jb9 {A A2 : zU} (h : FO ro 89 (ZL A)) (hA : ∀ a0 K, A2 a0 K → A a0 K) : FO ro 89 (ZL A2) := h.weak (by
 intro us k h
 unfold ZL at h ⊢
 split at h
 ·exact hA _ _ h
 ·exact h.elim)
def zaG (a0 : Int) (K : Bool → Prop) : Prop :=
 (((decide ((97 : Int) ≤ a0)) = true → (((decide (a0 ≤ 122)) = false → (((decide ((65 : Int) ≤ a0)) = true → K (decide (a0 ≤ 90))) ∧ ((decide ((65 : Int) ≤ a0)) = false → K false))) ∧ ((decide (a0 ≤ 122)) = true → K true))) ∧ ((decide ((97 : Int) ≤ a0)) = false → (((decide ((65 : Int) ≤ a0)) = true → K (decide (a0 ≤ 90))) ∧ ((decide ((65 : Int) ≤ a0)) = false → K false))))
def Zbf : ji sg := tab []
theorem jc6 (o0 : Nat → Prop) : Zj sy Tryz.prog GT (ovD ro) o0 ro (Zbf) := Jc o0
theorem Zc6 (a0 : Int) (k : W → Prop) : fnT sy Tryz.prog GT (Zbf) noL Tryz.f89.ntmps (za Tryz.f89) [none] Tryz.f89.results.toList [.i .u8 a0] k = zaG a0 (fun r0 => k (.b r0)) := by kernel_rfl
theorem Zdx : FO ro 89 (ZL (zaG)) := (zt (rc := [none]) (f := 89) (fn := Tryz.f89) (c := za Tryz.f89) (nt := Tryz.f89.ntmps) (res := Tryz.f89.results.toList) (C := Zbf) (L := noL) (fun _ _ => rfl) Tryz.func89 (by kernel_rfl) rfl rfl (jc6) (zi (l := []) (by kernel_rfl) Zd)).weak (by
 intro us k h
 unfold ZL at h
 split at h
 ·rw [Zc6]; exact h
 ·exact h.elim)
abbrev Jm := Int → (Bool → Prop) → Prop
def Jp (A : Jm) (us : List W) (k : W → Prop) : Prop := match us with
 | [.i .u8 a0] => A a0 (fun r0 => k (.b r0))
 | _ => False
theorem zbF {A A2 : Jm} (h : FO ro 72 (Jp A)) (hA : ∀ a0 K, A2 a0 K → A a0 K) : FO ro 72 (Jp A2) := h.weak (by
 intro us k h
 unfold Jp at h ⊢
 split at h
 ·exact hA _ _ h
 ·exact h.elim)
def zap (A89 : zU) (a0 : Int) (K : Bool → Prop) : Prop :=
 (A89 a0 (fun y1 => ((y1 = false → (((decide (a0 = 95)) = false → K (decide ((128 : Int) ≤ a0))) ∧ ((decide (a0 = 95)) = true → K true))) ∧ (y1 = true → K true))))
def jaK (A89 : zU) : ji sg := tab [(89, con [none] (ZL A89))]
theorem Zcp (A89 : zU) (h89 : FO ro 89 (ZL A89)) (o0 : Nat → Prop) : Zj sy Tryz.prog GT (ovD ro) o0 ro (jaK A89) := (ja (zc h89) Jc) o0
theorem Jcp (A89 : zU) (a0 : Int) (k : W → Prop) : fnT sy Tryz.prog GT (jaK A89) noL Tryz.f72.ntmps (za Tryz.f72) [none] Tryz.f72.results.toList [.i .u8 a0] k = zap A89 a0 (fun r0 => k (.b r0)) := by kernel_rfl
theorem ZcM (A89 : zU) (h89 : FO ro 89 (ZL A89)) : FO ro 72 (Jp (zap A89)) := (zt (rc := [none]) (f := 72) (fn := Tryz.f72) (c := za Tryz.f72) (nt := Tryz.f72.ntmps) (res := Tryz.f72.results.toList) (C := jaK A89) (L := noL) (fun _ _ => rfl) Tryz.func72 (by kernel_rfl) rfl rfl (Zcp A89 h89) (zi (l := []) (by kernel_rfl) Zd)).weak (by
 intro us k h
 unfold Jp at h
 split at h
 ·rw [Jcp]; exact h
 ·exact h.elim)
abbrev jm := Bt → Int → (Bool → Prop) → Prop
def JJ (A : jm) (us : List W) (k : W → Prop) : Prop := match us with
 | [.s a0, .i .i64 a1] => A a0 a1 (fun r0 => k (.b r0))
 | _ => False
theorem Jd1 {A A2 : jm} (h : FO ro 71 (JJ A)) (hA : ∀ a0 a1 K, A2 a0 a1 K → A a0 a1 K) : FO ro 71 (JJ A2) := h.weak (by
 intro us k h
 unfold JJ at h ⊢
 split at h
 ·exact hA _ _ _ h
 ·exact h.elim)
def Jdx (A68 : Za) (a0 : Bt) (a1 : Int) (K : Bool → Prop) : Prop :=
 (A68 a0 a1 (fun y1 => (((decide (y1 = 92)) = true → (I64 (a1 + 1) ∧ (A68 a0 (a1 + 1) (fun y2 => K (decide (y2 ≠ 10)))))) ∧ ((decide (y1 = 92)) = false → K false))))
def Zeu (A68 : Za) : ji sg := tab [(68, con [none, none] (jc A68))]
theorem Zfz (A68 : Za) (h68 : FO ro 68 (jc A68)) (o0 : Nat → Prop) : Zj sy Tryz.prog GT (ovD ro) o0 ro (Zeu A68) := (ja (zc h68) Jc) o0
theorem Jfz (A68 : Za) (a0 : Bt) (a1 : Int) (k : W → Prop) : fnT sy Tryz.prog GT (Zeu A68) noL Tryz.f71.ntmps (za Tryz.f71) [none] Tryz.f71.results.toList [.s a0, .i .i64 a1] k = Jdx A68 a0 a1 (fun r0 => k (.b r0)) := by kernel_rfl
theorem Jf5 (A68 : Za) (h68 : FO ro 68 (jc A68)) : FO ro 71 (JJ (Jdx A68)) := (zt (rc := [none]) (f := 71) (fn := Tryz.f71) (c := za Tryz.f71) (nt := Tryz.f71.ntmps) (res := Tryz.f71.results.toList) (C := Zeu A68) (L := noL) (fun _ _ => rfl) Tryz.func71 (by kernel_rfl) rfl rfl (Zfz A68 h68) (zi (l := []) (by kernel_rfl) Zd)).weak (by
 intro us k h
 unfold JJ at h
 split at h
 ·rw [Jfz]; exact h
 ·exact h.elim)
abbrev zn := Bt → Int → (Bool → Prop) → Prop
def zq (A : zn) (us : List W) (k : W → Prop) : Prop := match us with
 | [.s a0, .i .i64 a1] => A a0 a1 (fun r0 => k (.b r0))
 | _ => False
theorem jbF {A A2 : zn} (h : FO ro 54 (zq A)) (hA : ∀ a0 a1 K, A2 a0 a1 K → A a0 a1 K) : FO ro 54 (zq A2) := h.weak (by
 intro us k h
 unfold zq at h ⊢
 split at h
 ·exact hA _ _ _ h
 ·exact h.elim)
def jap (A68 : Za) (A72 : Jm) (A71 : jm) (a0 : Bt) (a1 : Int) (K : Bool → Prop) : Prop :=
 (A68 a0 a1 (fun y1 => (((decide (y1 ≠ 45)) = true → (A68 a0 a1 (fun y2 => (A72 y2 (fun y3 => ((y3 = false → (A71 a0 a1 (fun y4 => K y4))) ∧ (y3 = true → K true))))))) ∧ ((decide (y1 ≠ 45)) = false → (I64 (a1 + 1) ∧ (A68 a0 (a1 + 1) (fun y5 => (A72 y5 (fun y6 => ((y6 = false → (((decide (y5 = 45)) = false → (I64 (a1 + 1) ∧ (A71 a0 (a1 + 1) (fun y7 => K y7)))) ∧ ((decide (y5 = 45)) = true → K true))) ∧ (y6 = true → K true)))))))))))
def ZaK (A68 : Za) (A72 : Jm) (A71 : jm) : ji sg := tab [(68, con [none, none] (jc A68)), (72, con [none] (Jp A72)), (71, con [none, none] (JJ A71))]
theorem zcq (A68 : Za) (A72 : Jm) (A71 : jm) (h68 : FO ro 68 (jc A68)) (h72 : FO ro 72 (Jp A72)) (h71 : FO ro 71 (JJ A71)) (o0 : Nat → Prop) : Zj sy Tryz.prog GT (ovD ro) o0 ro (ZaK A68 A72 A71) := (ja (zc h68) (ja (zc h72) (ja (zc h71) Jc))) o0
theorem jcq (A68 : Za) (A72 : Jm) (A71 : jm) (a0 : Bt) (a1 : Int) (k : W → Prop) : fnT sy Tryz.prog GT (ZaK A68 A72 A71) noL Tryz.f54.ntmps (za Tryz.f54) [none] Tryz.f54.results.toList [.s a0, .i .i64 a1] k = jap A68 A72 A71 a0 a1 (fun r0 => k (.b r0)) := by kernel_rfl
theorem JcM (A68 : Za) (A72 : Jm) (A71 : jm) (h68 : FO ro 68 (jc A68)) (h72 : FO ro 72 (Jp A72)) (h71 : FO ro 71 (JJ A71)) : FO ro 54 (zq (jap A68 A72 A71)) := (zt (rc := [none]) (f := 54) (fn := Tryz.f54) (c := za Tryz.f54) (nt := Tryz.f54.ntmps) (res := Tryz.f54.results.toList) (C := ZaK A68 A72 A71) (L := noL) (fun _ _ => rfl) Tryz.func54 (by kernel_rfl) rfl rfl (zcq A68 A72 A71 h68 h72 h71) (zi (l := []) (by kernel_rfl) Zd)).weak (by
 intro us k h
 unfold zq at h
 split at h
 ·rw [jcq]; exact h
 ·exact h.elim)
abbrev jU := Int → (Bool → Prop) → Prop
def JL (A : jU) (us : List W) (k : W → Prop) : Prop := match us with
 | [.i .u8 a0] => A a0 (fun r0 => k (.b r0))
 | _ => False
theorem Zb9 {A A2 : jU} (h : FO ro 70 (JL A)) (hA : ∀ a0 K, A2 a0 K → A a0 K) : FO ro 70 (JL A2) := h.weak (by
 intro us k h
 unfold JL at h ⊢
 split at h
 ·exact hA _ _ h
 ·exact h.elim)
def jaG (A72 : Jm) (A62 : jb) (a0 : Int) (K : Bool → Prop) : Prop :=
 (A72 a0 (fun y1 => ((y1 = false → (A62 a0 (fun y2 => ((y2 = false → K (decide (a0 = 45))) ∧ (y2 = true → K true))))) ∧ (y1 = true → K true))))
def Jbf (A72 : Jm) (A62 : jb) : ji sg := tab [(72, con [none] (Jp A72)), (62, con [none] (zf A62))]
theorem Jc6 (A72 : Jm) (A62 : jb) (h72 : FO ro 72 (Jp A72)) (h62 : FO ro 62 (zf A62)) (o0 : Nat → Prop) : Zj sy Tryz.prog GT (ovD ro) o0 ro (Jbf A72 A62) := (ja (zc h72) (ja (zc h62) Jc)) o0
theorem zc7 (A72 : Jm) (A62 : jb) (a0 : Int) (k : W → Prop) : fnT sy Tryz.prog GT (Jbf A72 A62) noL Tryz.f70.ntmps (za Tryz.f70) [none] Tryz.f70.results.toList [.i .u8 a0] k = jaG A72 A62 a0 (fun r0 => k (.b r0)) := by kernel_rfl
theorem zdy (A72 : Jm) (A62 : jb) (h72 : FO ro 72 (Jp A72)) (h62 : FO ro 62 (zf A62)) : FO ro 70 (JL (jaG A72 A62)) := (zt (rc := [none]) (f := 70) (fn := Tryz.f70) (c := za Tryz.f70) (nt := Tryz.f70.ntmps) (res := Tryz.f70.results.toList) (C := Jbf A72 A62) (L := noL) (fun _ _ => rfl) Tryz.func70 (by kernel_rfl) rfl rfl (Jc6 A72 A62 h72 h62) (zi (l := []) (by kernel_rfl) Zd)).weak (by
 intro us k h
 unfold JL at h
 split at h
 ·rw [zc7]; exact h
 ·exact h.elim)
abbrev jO := Bt → Int → (Bool → Prop) → Prop
def jak (A : jO) (us : List W) (k : W → Prop) : Prop := match us with
 | [.s a0, .i .i64 a1] => A a0 a1 (fun r0 => k (.b r0))
 | _ => False
theorem zd2 {A A2 : jO} (h : FO ro 53 (jak A)) (hA : ∀ a0 a1 K, A2 a0 a1 K → A a0 a1 K) : FO ro 53 (jak A2) := h.weak (by
 intro us k h
 unfold jak at h ⊢
 split at h
 ·exact hA _ _ _ h
 ·exact h.elim)
def jdy (A68 : Za) (A70 : jU) (A71 : jm) (a0 : Bt) (a1 : Int) (K : Bool → Prop) : Prop :=
 (A68 a0 a1 (fun y1 => (A70 y1 (fun y2 => ((y2 = false → (A71 a0 a1 (fun y3 => K y3))) ∧ (y2 = true → K true))))))
def Jeu (A68 : Za) (A70 : jU) (A71 : jm) : ji sg := tab [(68, con [none, none] (jc A68)), (70, con [none] (JL A70)), (71, con [none, none] (JJ A71))]
theorem zfA (A68 : Za) (A70 : jU) (A71 : jm) (h68 : FO ro 68 (jc A68)) (h70 : FO ro 70 (JL A70)) (h71 : FO ro 71 (JJ A71)) (o0 : Nat → Prop) : Zj sy Tryz.prog GT (ovD ro) o0 ro (Jeu A68 A70 A71) := (ja (zc h68) (ja (zc h70) (ja (zc h71) Jc))) o0
theorem jfA (A68 : Za) (A70 : jU) (A71 : jm) (a0 : Bt) (a1 : Int) (k : W → Prop) : fnT sy Tryz.prog GT (Jeu A68 A70 A71) noL Tryz.f53.ntmps (za Tryz.f53) [none] Tryz.f53.results.toList [.s a0, .i .i64 a1] k = jdy A68 A70 A71 a0 a1 (fun r0 => k (.b r0)) := by kernel_rfl
theorem zf6 (A68 : Za) (A70 : jU) (A71 : jm) (h68 : FO ro 68 (jc A68)) (h70 : FO ro 70 (JL A70)) (h71 : FO ro 71 (JJ A71)) : FO ro 53 (jak (jdy A68 A70 A71)) := (zt (rc := [none]) (f := 53) (fn := Tryz.f53) (c := za Tryz.f53) (nt := Tryz.f53.ntmps) (res := Tryz.f53.results.toList) (C := Jeu A68 A70 A71) (L := noL) (fun _ _ => rfl) Tryz.func53 (by kernel_rfl) rfl rfl (zfA A68 A70 A71 h68 h70 h71) (zi (l := []) (by kernel_rfl) Zd)).weak (by
 intro us k h
 unfold jak at h
 split at h
 ·rw [jfA]; exact h
 ·exact h.elim)
abbrev Ja := Int → (Bool → Prop) → Prop
def zg (A : Ja) (us : List W) (k : W → Prop) : Prop := match us with
 | [.i .u8 a0] => A a0 (fun r0 => k (.b r0))
 | _ => False
theorem Zcq {A A2 : Ja} (h : FO ro 49 (zg A)) (hA : ∀ a0 K, A2 a0 K → A a0 K) : FO ro 49 (zg A2) := h.weak (by
 intro us k h
 unfold zg at h ⊢
 split at h
 ·exact hA _ _ h
 ·exact h.elim)
def Za0 (a0 : Int) (K : Bool → Prop) : Prop :=
 (((decide (a0 = 10)) = false → (((decide (a0 = 9)) = false → K (decide (a0 = 32))) ∧ ((decide (a0 = 9)) = true → K true))) ∧ ((decide (a0 = 10)) = true → K true))
def ZbF : ji sg := tab []
theorem Zdy (o0 : Nat → Prop) : Zj sy Tryz.prog GT (ovD ro) o0 ro (ZbF) := Jc o0
theorem Jdy (a0 : Int) (k : W → Prop) : fnT sy Tryz.prog GT (ZbF) noL Tryz.f49.ntmps (za Tryz.f49) [none] Tryz.f49.results.toList [.i .u8 a0] k = Za0 a0 (fun r0 => k (.b r0)) := by kernel_rfl
theorem jd2 : FO ro 49 (zg (Za0)) := (zt (rc := [none]) (f := 49) (fn := Tryz.f49) (c := za Tryz.f49) (nt := Tryz.f49.ntmps) (res := Tryz.f49.results.toList) (C := ZbF) (L := noL) (fun _ _ => rfl) Tryz.func49 (by kernel_rfl) rfl rfl (Zdy) (zi (l := []) (by kernel_rfl) Zd)).weak (by
 intro us k h
 unfold zg at h
 split at h
 ·rw [Jdy]; exact h
 ·exact h.elim)
abbrev zC := Int → (Bool → Prop) → Prop
def jE (A : zC) (us : List W) (k : W → Prop) : Prop := match us with
 | [.i .u8 a0] => A a0 (fun r0 => k (.b r0))
 | _ => False
theorem Jcq {A A2 : zC} (h : FO ro 51 (jE A)) (hA : ∀ a0 K, A2 a0 K → A a0 K) : FO ro 51 (jE A2) := h.weak (by
 intro us k h
 unfold jE at h ⊢
 split at h
 ·exact hA _ _ h
 ·exact h.elim)
def Ja0 (a0 : Int) (K : Bool → Prop) : Prop :=
 (((decide (a0 = 34)) = false → K (decide (a0 = 39))) ∧ ((decide (a0 = 34)) = true → K true))
def JbF : ji sg := tab []
theorem zdz (o0 : Nat → Prop) : Zj sy Tryz.prog GT (ovD ro) o0 ro (JbF) := Jc o0
theorem jdz (a0 : Int) (k : W → Prop) : fnT sy Tryz.prog GT (JbF) noL Tryz.f51.ntmps (za Tryz.f51) [none] Tryz.f51.results.toList [.i .u8 a0] k = Ja0 a0 (fun r0 => k (.b r0)) := by kernel_rfl
theorem Zd2 : FO ro 51 (jE (Ja0)) := (zt (rc := [none]) (f := 51) (fn := Tryz.f51) (c := za Tryz.f51) (nt := Tryz.f51.ntmps) (res := Tryz.f51.results.toList) (C := JbF) (L := noL) (fun _ _ => rfl) Tryz.func51 (by kernel_rfl) rfl rfl (zdz) (zi (l := []) (by kernel_rfl) Zd)).weak (by
 intro us k h
 unfold jE at h
 split at h
 ·rw [jdz]; exact h
 ·exact h.elim)
abbrev JD := Bt → Int → (Int → Prop) → Prop
def z6 (A : JD) (us : List W) (k : W → Prop) : Prop := match us with
 | [.s a0, .i .i64 a1] => A a0 a1 (fun r0 => k (.i .i64 r0))
 | _ => False
theorem Jd2 {A A2 : JD} (h : FO ro 50 (z6 A)) (hA : ∀ a0 a1 K, A2 a0 a1 K → A a0 a1 K) : FO ro 50 (z6 A2) := h.weak (by
 intro us k h
 unfold z6 at h ⊢
 split at h
 ·exact hA _ _ _ h
 ·exact h.elim)
def jbt (A68 : Za) (A49 : Ja) : Nat → Bt → Int → (Int → Prop) → Prop
 | 0, _, _, _ => False
 | n + 1, x0, x1, Ke => (A68 x0 x1 (fun y1 => (A49 y1 (fun y2 => ((y2 = true → (I64 (x1 + 1) ∧ jbt A68 A49 n x0 (x1 + 1) Ke)) ∧ (y2 = false → Ke x1))))))
def zev (A68 : Za) (A49 : Ja) (a0 : Bt) (a1 : Int) (K : Int → Prop) : Prop :=
 (∃ m, jbt A68 A49 m a0 a1 (fun y1 => K y1))
def Zdz (A68 : Za) (A49 : Ja) : ji sg := tab [(68, con [none, none] (jc A68)), (49, con [none] (zg A49))]
theorem zd3 (A68 : Za) (A49 : Ja) (h68 : FO ro 68 (jc A68)) (h49 : FO ro 49 (zg A49)) (o0 : Nat → Prop) : Zj sy Tryz.prog GT (ovD ro) o0 ro (Zdz A68 A49) := (ja (zc h68) (ja (zc h49) Jc)) o0
abbrev Jb9 : Type := ((Bt) × Int × Unit)
abbrev Yb_k_bSp_1 : Type := Unit
def ls_k_bSp_1 : LS sy Jb9 Yb_k_bSp_1 := ⟨[], Zf 0 (jax sy) (Zf 1 (jP sy .i64) (jab sy)), Zab sy, 0, []⟩
def le_k_bSp_1 : LS sy (Int × Unit) Unit := ⟨[], Zf 1 (jP sy .i64) (jab sy), Zab sy, 0, []⟩
def zca : LS sy Unit Unit := ⟨[], jab sy, Zab sy, 0, []⟩
def Zbt (A68 : Za) (A49 : Ja) (n : Nat) (x : Jb9 × Yb_k_bSp_1) (K : Ex → Z sg → Prop) : Prop := jbt A68 A49 n x.1.1 x.1.2.1 (fun y0 => K (.exit 0) (le_k_bSp_1.put ((y0, ()), ())))
def ZfA (A68 : Za) (A49 : Ja) (z : Z sg) (K : Ex → Z sg → Prop) : Prop := ls_k_bSp_1.get z (fun x => ∃ n, Zbt A68 A49 n x K)
def jca (A68 : Za) (A49 : Ja) : Z5 sg := Zc4 [(1, ZfA A68 A49)]
theorem je3 (A68 : Za) (A49 : Ja) (n : Nat) (x : Jb9 × Yb_k_bSp_1) (K : Ex → Z sg → Prop) : zJ (ls_k_bSp_1.put x) (fun z => sC sy Tryz.prog GT (Zdz A68 A49) (jca A68 A49) Tryz.f50.ntmps (Zb (za Tryz.f50) 0) z (rnd ls_k_bSp_1 (czT 0 le_k_bSp_1 zca) (fun x => Zbt A68 A49 n x K) K)) = Zbt A68 A49 (n + 1) x K := by kernel_rfl
theorem Ze3 (A68 : Za) (A49 : Ja) (z : Z sg) (K : Ex → Z sg → Prop) : (jca A68 A49) (Zb (za Tryz.f50) 0) z K = ls_k_bSp_1.get z (fun x => ∃ n, Zbt A68 A49 n x K) := by kernel_rfl
theorem Je3 (A68 : Za) (A49 : Ja) (h68 : FO ro 68 (jc A68)) (h49 : FO ro 49 (zg A49)) : ∀ (o0 : Nat → Prop) (B : Bs sg), B.E.length ≤ 0 → ∀ z K, (jca A68 A49) (Zb (za Tryz.f50) 0) z K → Sx.Sem sy Tryz.prog GT (ovD ro) o0 ro Tryz.f50.ntmps B (.loop (Zb (za Tryz.f50) 0)) z K :=
 jS (zd3 A68 A49 h68 h49) (zi (l := []) (by kernel_rfl) Zd) ls_k_bSp_1 (by decide) (czT 0 le_k_bSp_1 zca) (fun _ _ hB => Zag 0 le_k_bSp_1 zca (Nat.le_trans hB (by decide)) (Nat.le_trans hB (by decide))) (fun _ _ h => h) (je3 A68 A49) (Ze3 A68 A49)
theorem jf6 (A68 : Za) (A49 : Ja) (h68 : FO ro 68 (jc A68)) (h49 : FO ro 49 (zg A49)) : Zcx sy Tryz.prog GT (ovD ro) ro (jca A68 A49) 0 Tryz.f50.ntmps (za Tryz.f50) := zi (l := [(Zb (za Tryz.f50) 0)]) (by kernel_rfl) (zS (Je3 A68 A49 h68 h49) Zd)
theorem JfA (A68 : Za) (A49 : Ja) (a0 : Bt) (a1 : Int) (k : W → Prop) : fnT sy Tryz.prog GT (Zdz A68 A49) (jca A68 A49) Tryz.f50.ntmps (za Tryz.f50) [none] Tryz.f50.results.toList [.s a0, .i .i64 a1] k = zev A68 A49 a0 a1 (fun r0 => k (.i .i64 r0)) := by kernel_rfl
theorem Zf6 (A68 : Za) (A49 : Ja) (h68 : FO ro 68 (jc A68)) (h49 : FO ro 49 (zg A49)) : FO ro 50 (z6 (zev A68 A49)) := (zt (rc := [none]) (f := 50) (fn := Tryz.f50) (c := za Tryz.f50) (nt := Tryz.f50.ntmps) (res := Tryz.f50.results.toList) (C := Zdz A68 A49) (L := (jca A68 A49)) (fun _ _ => rfl) Tryz.func50 (by kernel_rfl) rfl rfl (zd3 A68 A49 h68 h49) (jf6 A68 A49 h68 h49)).weak (by
 intro us k h
 unfold z6 at h
 split at h
 ·rw [JfA]; exact h
 ·exact h.elim)
abbrev J9 := Bt → Bt → (Bool → Prop) → Prop
def jad (A : J9) (us : List W) (k : W → Prop) : Prop := match us with
 | [.s a0, .s a1] => A a0 a1 (fun r0 => k (.b r0))
 | _ => False
theorem Jdz {A A2 : J9} (h : FO ro 61 (jad A)) (hA : ∀ a0 a1 K, A2 a0 a1 K → A a0 a1 K) : FO ro 61 (jad A2) := h.weak (by
 intro us k h
 unfold jad at h ⊢
 split at h
 ·exact hA _ _ _ h
 ·exact h.elim)
def zdA (a0 : Bt) (a1 : Bt) (K : Bool → Prop) : Prop :=
 (((decide ((a1.length : Int) ≤ (a0.length : Int))) = true → ((0 ≤ (a1.length : Int) ∧ (a1.length : Int) ≤ (a0.length : Int)) ∧ K ((a0.take (a1.length : Int).toNat) == a1))) ∧ ((decide ((a1.length : Int) ≤ (a0.length : Int))) = false → K false))
def jdA : ji sg := tab []
theorem ze4 (o0 : Nat → Prop) : Zj sy Tryz.prog GT (ovD ro) o0 ro (jdA) := Jc o0
theorem je4 (a0 : Bt) (a1 : Bt) (k : W → Prop) : fnT sy Tryz.prog GT (jdA) noL Tryz.f61.ntmps (za Tryz.f61) [none] Tryz.f61.results.toList [.s a0, .s a1] k = zdA a0 a1 (fun r0 => k (.b r0)) := by kernel_rfl
theorem zfB : FO ro 61 (jad (zdA)) := (zt (rc := [none]) (f := 61) (fn := Tryz.f61) (c := za Tryz.f61) (nt := Tryz.f61.ntmps) (res := Tryz.f61.results.toList) (C := jdA) (L := noL) (fun _ _ => rfl) Tryz.func61 (by kernel_rfl) rfl rfl (ze4) (zi (l := []) (by kernel_rfl) Zd)).weak (by
 intro us k h
 unfold jad at h
 split at h
 ·rw [je4]; exact h
 ·exact h.elim)
abbrev ZC := Bt → Bt → (Bool → Prop) → Prop
def Z2 (A : ZC) (us : List W) (k : W → Prop) : Prop := match us with
 | [.s a0, .s a1] => A a0 a1 (fun r0 => k (.b r0))
 | _ => False
theorem ZdA {A A2 : ZC} (h : FO ro 47 (Z2 A)) (hA : ∀ a0 a1 K, A2 a0 a1 K → A a0 a1 K) : FO ro 47 (Z2 A2) := h.weak (by
 intro us k h
 unfold Z2 at h ⊢
 split at h
 ·exact hA _ _ _ h
 ·exact h.elim)
def JdA (A61 : J9) (a0 : Bt) (a1 : Bt) (K : Bool → Prop) : Prop :=
 (A61 a0 a1 (fun y1 => K y1))
def zdB (A61 : J9) : ji sg := tab [(61, con [none, none] (jad A61))]
theorem Ze4 (A61 : J9) (h61 : FO ro 61 (jad A61)) (o0 : Nat → Prop) : Zj sy Tryz.prog GT (ovD ro) o0 ro (zdB A61) := (ja (zc h61) Jc) o0
theorem Je4 (A61 : J9) (a0 : Bt) (a1 : Bt) (k : W → Prop) : fnT sy Tryz.prog GT (zdB A61) noL Tryz.f47.ntmps (za Tryz.f47) [none] Tryz.f47.results.toList [.s a0, .s a1] k = JdA A61 a0 a1 (fun r0 => k (.b r0)) := by kernel_rfl
theorem jfB (A61 : J9) (h61 : FO ro 61 (jad A61)) : FO ro 47 (Z2 (JdA A61)) := (zt (rc := [none]) (f := 47) (fn := Tryz.f47) (c := za Tryz.f47) (nt := Tryz.f47.ntmps) (res := Tryz.f47.results.toList) (C := zdB A61) (L := noL) (fun _ _ => rfl) Tryz.func47 (by kernel_rfl) rfl rfl (Ze4 A61 h61) (zi (l := []) (by kernel_rfl) Zd)).weak (by
 intro us k h
 unfold Z2 at h
 split at h
 ·rw [Je4]; exact h
 ·exact h.elim)
abbrev zd := Bt → (Bool → Prop) → Prop
def Zg (A : zd) (us : List W) (k : W → Prop) : Prop := match us with
 | [.s a0] => A a0 (fun r0 => k (.b r0))
 | _ => False
theorem ZaD {A A2 : zd} (h : FO ro 46 (Zg A)) (hA : ∀ a0 K, A2 a0 K → A a0 K) : FO ro 46 (Zg A2) := h.weak (by
 intro us k h
 unfold Zg at h ⊢
 split at h
 ·exact hA _ _ h
 ·exact h.elim)
def j6 (a0 : Bt) (K : Bool → Prop) : Prop :=
 (((decide ((0 : Int) < (a0.length : Int))) = true → ((0 ≤ (0 : Int) ∧ (0 : Int) < (a0.length : Int)) ∧ K (decide (((a0.getD 0 0).toNat : Int) = (10 : Int))))) ∧ ((decide ((0 : Int) < (a0.length : Int))) = false → K false))
def Z6 : ji sg := tab []
theorem za1 (o0 : Nat → Prop) : Zj sy Tryz.prog GT (ovD ro) o0 ro (Z6) := Jc o0
theorem ja1 (a0 : Bt) (k : W → Prop) : fnT sy Tryz.prog GT (Z6) noL Tryz.f46.ntmps (za Tryz.f46) [none] Tryz.f46.results.toList [.s a0] k = j6 a0 (fun r0 => k (.b r0)) := by kernel_rfl
theorem Za8 : FO ro 46 (Zg (j6)) := (zt (rc := [none]) (f := 46) (fn := Tryz.f46) (c := za Tryz.f46) (nt := Tryz.f46.ntmps) (res := Tryz.f46.results.toList) (C := Z6) (L := noL) (fun _ _ => rfl) Tryz.func46 (by kernel_rfl) rfl rfl (za1) (zi (l := []) (by kernel_rfl) Zd)).weak (by
 intro us k h
 unfold Zg at h
 split at h
 ·rw [ja1]; exact h
 ·exact h.elim)
abbrev jB := Bt → (Bt → Int → Prop) → Prop
def JY (A : jB) (us : List W) (k : W → Prop) : Prop := match us with
 | [.s a0] => A a0 (fun r0 r1 => k (.t [.s r0, .i .i64 r1]))
 | _ => False
theorem jc7 {A A2 : jB} (h : FO ro 32 (JY A)) (hA : ∀ a0 K, A2 a0 K → A a0 K) : FO ro 32 (JY A2) := h.weak (by
 intro us k h
 unfold JY at h ⊢
 split at h
 ·exact hA _ _ h
 ·exact h.elim)
def ZU (A46 : zd) : Nat → Bt → Int → Bt → (Bt → Prop) → Prop
 | 0, _, _, _, _ => False
 | n + 1, x0, x5, b0, Ke => (((decide (x5 < (x0.length : Int))) = true → ((0 ≤ x5 ∧ x5 < (x0.length : Int)) ∧ (((decide (((x0.getD x5.toNat 0).toNat : Int) = (0 : Int))) = true → ((b0.length + ([239, 191, 189] : Bt).length) * 1 ≤ 1099511627776 ∧ (I64 (x5 + 1) ∧ ZU A46 n x0 (x5 + 1) (b0 ++ ([239, 191, 189] : Bt)) Ke))) ∧ ((decide (((x0.getD x5.toNat 0).toNat : Int) = (0 : Int))) = false → (((decide (((x0.getD x5.toNat 0).toNat : Int) = (12 : Int))) = true → ((0 ≤ (10 : Int) ∧ (10 : Int) ≤ 255) ∧ ((b0.length + [UInt8.ofNat 10].length) * 1 ≤ 1099511627776 ∧ (I64 (x5 + 1) ∧ ZU A46 n x0 (x5 + 1) (b0 ++ [UInt8.ofNat 10]) Ke)))) ∧ ((decide (((x0.getD x5.toNat 0).toNat : Int) = (12 : Int))) = false → (((decide (((x0.getD x5.toNat 0).toNat : Int) = (13 : Int))) = true → (I64 (x5 + 1) ∧ ((0 ≤ (x5 + 1) ∧ (x5 + 1) ≤ (x0.length : Int)) ∧ (A46 (x0.drop (x5 + 1).toNat) (fun y1 => (((!y1) = true → ((0 ≤ (10 : Int) ∧ (10 : Int) ≤ 255) ∧ ((b0.length + [UInt8.ofNat 10].length) * 1 ≤ 1099511627776 ∧ (I64 (x5 + 1) ∧ ZU A46 n x0 (x5 + 1) (b0 ++ [UInt8.ofNat 10]) Ke)))) ∧ ((!y1) = false → (I64 (x5 + 1) ∧ ZU A46 n x0 (x5 + 1) b0 Ke)))))))) ∧ ((decide (((x0.getD x5.toNat 0).toNat : Int) = (13 : Int))) = false → ((0 ≤ x5 ∧ x5 < (x0.length : Int)) ∧ ((0 ≤ ((x0.getD x5.toNat 0).toNat : Int) ∧ ((x0.getD x5.toNat 0).toNat : Int) ≤ 255) ∧ ((b0.length + [UInt8.ofNat (((x0.getD x5.toNat 0).toNat : Int).toNat)].length) * 1 ≤ 1099511627776 ∧ (I64 (x5 + 1) ∧ ZU A46 n x0 (x5 + 1) (b0 ++ [UInt8.ofNat (((x0.getD x5.toNat 0).toNat : Int).toNat)]) Ke)))))))))))) ∧ ((decide (x5 < (x0.length : Int))) = false → Ke b0))
def zcN (A46 : zd) (a0 : Bt) (K : Bt → Int → Prop) : Prop :=
 (((decide ((4000 : Int) < (a0.length : Int))) = true → K ([] : Bt) (28 : Int)) ∧ ((decide ((4000 : Int) < (a0.length : Int))) = false → ((0 ≤ (0 : Int) ∧ (0 : Int) ≤ (a0.length : Int) ∧ 1 * (a0.length : Int) ≤ 1099511627776 ∧ (a0.length : Int) ≤ 1099511627776) ∧ ((0 ≤ (0 : Int) ∧ (0 : Int) ≤ 255) ∧ (∃ m, ZU A46 m a0 (0 : Int) (List.replicate 0 (UInt8.ofNat 0)) (fun y1 => K y1 (0 : Int)))))))
def jbU (A46 : zd) : ji sg := tab [(46, con [none] (Zg A46))]
theorem jcN (A46 : zd) (h46 : FO ro 46 (Zg A46)) (o0 : Nat → Prop) : Zj sy Tryz.prog GT (ovD ro) o0 ro (jbU A46) := (ja (zc h46) Jc) o0
abbrev zbg : Type := ((Bt) × Unit × Int × Unit)
abbrev Yb_i_Clean_5 : Type := (List (sg.Den Cd.u8) × Unit)
def ls_i_Clean_5 : LS sy zbg Yb_i_Clean_5 := ⟨[], Zf 0 (jax sy) (Zf 4 (Ja7 sy (.o 0)) (Zf 5 (jP sy .i64) (jab sy))), Zco 0 Cd.u8 (Zab sy), 1, [0]⟩
def le_i_Clean_5 : LS sy (Unit × Unit) (List (sg.Den Cd.u8) × Unit) := ⟨[], Zf 4 (Ja7 sy (.o 0)) (jab sy), Zco 0 Cd.u8 (Zab sy), 1, [0]⟩
def jbg : LS sy Unit Unit := ⟨[], jab sy, Zab sy, 0, []⟩
def ZaG (A46 : zd) (n : Nat) (x : zbg × Yb_i_Clean_5) (K : Ex → Z sg → Prop) : Prop := ZU A46 n x.1.1 x.1.2.2.1 x.2.1 (fun y0 => K (.exit 0) (le_i_Clean_5.put (((), ()), (y0, ()))))
def jev (A46 : zd) (z : Z sg) (K : Ex → Z sg → Prop) : Prop := ls_i_Clean_5.get z (fun x => ∃ n, ZaG A46 n x K)
def zaT (A46 : zd) : Z5 sg := Zc4 [(5, jev A46)]
theorem jd3 (A46 : zd) (n : Nat) (x : zbg × Yb_i_Clean_5) (K : Ex → Z sg → Prop) : zJ (ls_i_Clean_5.put x) (fun z => sC sy Tryz.prog GT (jbU A46) (zaT A46) Tryz.f32.ntmps (Zb (za Tryz.f32) 0) z (rnd ls_i_Clean_5 (czT 0 le_i_Clean_5 jbg) (fun x => ZaG A46 n x K) K)) = ZaG A46 (n + 1) x K := by kernel_rfl
theorem Zd3 (A46 : zd) (z : Z sg) (K : Ex → Z sg → Prop) : (zaT A46) (Zb (za Tryz.f32) 0) z K = ls_i_Clean_5.get z (fun x => ∃ n, ZaG A46 n x K) := by kernel_rfl
theorem Jd3 (A46 : zd) (h46 : FO ro 46 (Zg A46)) : ∀ (o0 : Nat → Prop) (B : Bs sg), B.E.length ≤ 0 → ∀ z K, (zaT A46) (Zb (za Tryz.f32) 0) z K → Sx.Sem sy Tryz.prog GT (ovD ro) o0 ro Tryz.f32.ntmps B (.loop (Zb (za Tryz.f32) 0)) z K :=
 jS (jcN A46 h46) (zi (l := []) (by kernel_rfl) Zd) ls_i_Clean_5 (by decide) (czT 0 le_i_Clean_5 jbg) (fun _ _ hB => Zag 0 le_i_Clean_5 jbg (Nat.le_trans hB (by decide)) (Nat.le_trans hB (by decide))) (fun _ _ h => h) (jd3 A46) (Zd3 A46)
theorem ze5 (A46 : zd) (h46 : FO ro 46 (Zg A46)) : Zcx sy Tryz.prog GT (ovD ro) ro (zaT A46) 0 Tryz.f32.ntmps (za Tryz.f32) := zi (l := [(Zb (za Tryz.f32) 0)]) (by kernel_rfl) (zS (Jd3 A46 h46) Zd)
theorem Zev (A46 : zd) (a0 : Bt) (k : W → Prop) : fnT sy Tryz.prog GT (jbU A46) (zaT A46) Tryz.f32.ntmps (za Tryz.f32) [none, none] Tryz.f32.results.toList [.s a0] k = zcN A46 a0 (fun r0 r1 => k (.t [.s r0, .i .i64 r1])) := by kernel_rfl
theorem je5 (A46 : zd) (h46 : FO ro 46 (Zg A46)) : FO ro 32 (JY (zcN A46)) := (zt (rc := [none, none]) (f := 32) (fn := Tryz.f32) (c := za Tryz.f32) (nt := Tryz.f32.ntmps) (res := Tryz.f32.results.toList) (C := jbU A46) (L := (zaT A46)) (fun _ _ => rfl) Tryz.func32 (by kernel_rfl) rfl rfl (jcN A46 h46) (ze5 A46 h46)).weak (by
 intro us k h
 unfold JY at h
 split at h
 ·rw [Zev]; exact h
 ·exact h.elim)
end Go.Proofs.YtbpbaicbaehhjaaGreatDoor
