/-
 Progressions, followed. Nothing is claimed here.
-/
import Derived.Test.YtbpbaicbaehhjaaGreatDoorTl
namespace Go.Proofs.YtbpbaicbaehhjaaGreatDoor
open Go.Vm Go.Sx Go.RowKit
variable {ro : Nat}
abbrev zw := Int → Int → (Bt → Prop) → Prop
def jI (A : zw) (us : List W) (k : W → Prop) : Prop := match us with
 | [.i .i64 a0, .i .i64 a1] => A a0 a1 (fun r0 => k (.s r0))
 | _ => False
abbrev je := (Bool → Prop) → Prop
def js (A : je) (us : List W) (k : W → Prop) : Prop := match us with
 | [] => A (fun r0 => k (.b r0))
 | _ => False
abbrev jG := Bt → Bt → (Bt → Bool → Prop) → Prop
def zD (A : jG) (us : List W) (k : W → Prop) : Prop := match us with
 | [.s a0, .s a1] => A a0 a1 (fun r0 r1 => k (.t [.s r0, .b r1]))
 | _ => False
theorem JbH {A A2 : jG} (h : FO ro 40 (zD A)) (hA : ∀ a0 a1 K, A2 a0 a1 K → A a0 a1 K) : FO ro 40 (zD A2) := h.weak (by
 intro us k h
 unfold zD at h ⊢
 split at h
 ·exact hA _ _ _ h
 ·exact h.elim)
def JaL (A61 : J9) (a0 : Bt) (a1 : Bt) (K : Bt → Bool → Prop) : Prop :=
 (A61 a0 a1 (fun y1 => (((!y1) = true → K a0 false) ∧ ((!y1) = false → ((0 ≤ (a1.length : Int) ∧ (a1.length : Int) ≤ (a0.length : Int)) ∧ K (a0.drop (a1.length : Int).toNat) true)))))
def zaM (A61 : J9) : ji sg := tab [(61, con [none, none] (jad A61))]
theorem Jcr (A61 : J9) (h61 : FO ro 61 (jad A61)) (o0 : Nat → Prop) : Zj sy Tryz.prog GT (ovD ro) o0 ro (zaM A61) := (ja (zc h61) Jc) o0
theorem zcs (A61 : J9) (a0 : Bt) (a1 : Bt) (k : W → Prop) : fnT sy Tryz.prog GT (zaM A61) noL Tryz.f40.ntmps (za Tryz.f40) [none, none] Tryz.f40.results.toList [.s a0, .s a1] k = JaL A61 a0 a1 (fun r0 r1 => k (.t [.s r0, .b r1])) := by kernel_rfl
theorem ZcT (A61 : J9) (h61 : FO ro 61 (jad A61)) : FO ro 40 (zD (JaL A61)) := (zt (rc := [none, none]) (f := 40) (fn := Tryz.f40) (c := za Tryz.f40) (nt := Tryz.f40.ntmps) (res := Tryz.f40.results.toList) (C := zaM A61) (L := noL) (fun _ _ => rfl) Tryz.func40 (by kernel_rfl) rfl rfl (Jcr A61 h61) (zi (l := []) (by kernel_rfl) Zd)).weak (by
 intro us k h
 unfold zD at h
 split at h
 ·rw [zcs]; exact h
 ·exact h.elim)
abbrev zh := Bt → Bt → (Bt → Bool → Prop) → Prop
def zk (A : zh) (us : List W) (k : W → Prop) : Prop := match us with
 | [.s a0, .s a1] => A a0 a1 (fun r0 r1 => k (.t [.s r0, .b r1]))
 | _ => False
theorem zbI {A A2 : zh} (h : FO ro 29 (zk A)) (hA : ∀ a0 a1 K, A2 a0 a1 K → A a0 a1 K) : FO ro 29 (zk A2) := h.weak (by
 intro us k h
 unfold zk at h ⊢
 split at h
 ·exact hA _ _ _ h
 ·exact h.elim)
def jaM (A40 : jG) (a0 : Bt) (a1 : Bt) (K : Bt → Bool → Prop) : Prop :=
 (A40 a0 a1 (fun y1 y2 => K y1 y2))
def ZaM (A40 : jG) : ji sg := tab [(40, con [none, none] (zD A40))]
theorem jcs (A40 : jG) (h40 : FO ro 40 (zD A40)) (o0 : Nat → Prop) : Zj sy Tryz.prog GT (ovD ro) o0 ro (ZaM A40) := (ja (zc h40) Jc) o0
theorem Zcs (A40 : jG) (a0 : Bt) (a1 : Bt) (k : W → Prop) : fnT sy Tryz.prog GT (ZaM A40) noL Tryz.f29.ntmps (za Tryz.f29) [none, none] Tryz.f29.results.toList [.s a0, .s a1] k = jaM A40 a0 a1 (fun r0 r1 => k (.t [.s r0, .b r1])) := by kernel_rfl
theorem JcT (A40 : jG) (h40 : FO ro 40 (zD A40)) : FO ro 29 (zk (jaM A40)) := (zt (rc := [none, none]) (f := 29) (fn := Tryz.f29) (c := za Tryz.f29) (nt := Tryz.f29.ntmps) (res := Tryz.f29.results.toList) (C := ZaM A40) (L := noL) (fun _ _ => rfl) Tryz.func29 (by kernel_rfl) rfl rfl (jcs A40 h40) (zi (l := []) (by kernel_rfl) Zd)).weak (by
 intro us k h
 unfold zk at h
 split at h
 ·rw [Zcs]; exact h
 ·exact h.elim)
abbrev jn := Int → (Bool → Prop) → Prop
def jq (A : jn) (us : List W) (k : W → Prop) : Prop := match us with
 | [.i .i64 a0] => A a0 (fun r0 => k (.b r0))
 | _ => False
theorem jbI {A A2 : jn} (h : FO ro 23 (jq A)) (hA : ∀ a0 K, A2 a0 K → A a0 K) : FO ro 23 (jq A2) := h.weak (by
 intro us k h
 unfold jq at h ⊢
 split at h
 ·exact hA _ _ h
 ·exact h.elim)
def JaM (a0 : Int) (K : Bool → Prop) : Prop :=
 (((decide ((-1000000000 : Int) ≤ a0)) = true → K (decide (a0 ≤ 1000000000))) ∧ ((decide ((-1000000000 : Int) ≤ a0)) = false → K false))
def zaN : ji sg := tab []
theorem Jcs (o0 : Nat → Prop) : Zj sy Tryz.prog GT (ovD ro) o0 ro (zaN) := Jc o0
theorem zct (a0 : Int) (k : W → Prop) : fnT sy Tryz.prog GT (zaN) noL Tryz.f23.ntmps (za Tryz.f23) [none] Tryz.f23.results.toList [.i .i64 a0] k = JaM a0 (fun r0 => k (.b r0)) := by kernel_rfl
theorem zcU : FO ro 23 (jq (JaM)) := (zt (rc := [none]) (f := 23) (fn := Tryz.f23) (c := za Tryz.f23) (nt := Tryz.f23.ntmps) (res := Tryz.f23.results.toList) (C := zaN) (L := noL) (fun _ _ => rfl) Tryz.func23 (by kernel_rfl) rfl rfl (Jcs) (zi (l := []) (by kernel_rfl) Zd)).weak (by
 intro us k h
 unfold jq at h
 split at h
 ·rw [zct]; exact h
 ·exact h.elim)
abbrev Zi := Int → (Bt → Prop) → Prop
def Zm (A : Zi) (us : List W) (k : W → Prop) : Prop := match us with
 | [.i .i64 a0] => A a0 (fun r0 => k (.s r0))
 | _ => False
theorem JbX {A A2 : Zi} (h : FO ro 20 (Zm A)) (hA : ∀ a0 K, A2 a0 K → A a0 K) : FO ro 20 (Zm A2) := h.weak (by
 intro us k h
 unfold Zm at h ⊢
 split at h
 ·exact hA _ _ h
 ·exact h.elim)
def ja3 (A31 : zw) (a0 : Int) (K : Bt → Prop) : Prop :=
 (A31 a0 (10 : Int) (fun y1 => K y1))
def Za3 (A31 : zw) : ji sg := tab [(31, con [none, none] (jI A31))]
theorem jcU (A31 : zw) (h31 : FO ro 31 (jI A31)) (o0 : Nat → Prop) : Zj sy Tryz.prog GT (ovD ro) o0 ro (Za3 A31) := (ja (zc h31) Jc) o0
theorem ZcU (A31 : zw) (a0 : Int) (k : W → Prop) : fnT sy Tryz.prog GT (Za3 A31) noL Tryz.f20.ntmps (za Tryz.f20) [none] Tryz.f20.results.toList [.i .i64 a0] k = ja3 A31 a0 (fun r0 => k (.s r0)) := by kernel_rfl
theorem jdb (A31 : zw) (h31 : FO ro 31 (jI A31)) : FO ro 20 (Zm (ja3 A31)) := (zt (rc := [none]) (f := 20) (fn := Tryz.f20) (c := za Tryz.f20) (nt := Tryz.f20.ntmps) (res := Tryz.f20.results.toList) (C := Za3 A31) (L := noL) (fun _ _ => rfl) Tryz.func20 (by kernel_rfl) rfl rfl (jcU A31 h31) (zi (l := []) (by kernel_rfl) Zd)).weak (by
 intro us k h
 unfold Zm at h
 split at h
 ·rw [ZcU]; exact h
 ·exact h.elim)
abbrev JU := Int → (Bt → Prop) → Prop
def ZM (A : JU) (us : List W) (k : W → Prop) : Prop := match us with
 | [.i .i64 a0] => A a0 (fun r0 => k (.s r0))
 | _ => False
theorem Zcd {A A2 : JU} (h : FO ro 21 (ZM A)) (hA : ∀ a0 K, A2 a0 K → A a0 K) : FO ro 21 (ZM A2) := h.weak (by
 intro us k h
 unfold ZM at h ⊢
 split at h
 ·exact hA _ _ h
 ·exact h.elim)
def jbj (A20 : Zi) (a0 : Int) (K : Bt → Prop) : Prop :=
 (((decide (a0 = 1)) = true → K ([] : Bt)) ∧ ((decide (a0 = 1)) = false → (((decide (a0 = (-1 : Int))) = true → K ([45] : Bt)) ∧ ((decide (a0 = (-1 : Int))) = false → (A20 a0 (fun y1 => K y1))))))
def Zbj (A20 : Zi) : ji sg := tab [(20, con [none] (Zm A20))]
theorem Zdb (A20 : Zi) (h20 : FO ro 20 (Zm A20)) (o0 : Nat → Prop) : Zj sy Tryz.prog GT (ovD ro) o0 ro (Zbj A20) := (ja (zc h20) Jc) o0
theorem Jdb (A20 : Zi) (a0 : Int) (k : W → Prop) : fnT sy Tryz.prog GT (Zbj A20) noL Tryz.f21.ntmps (za Tryz.f21) [none] Tryz.f21.results.toList [.i .i64 a0] k = jbj A20 a0 (fun r0 => k (.s r0)) := by kernel_rfl
theorem JdD (A20 : Zi) (h20 : FO ro 20 (Zm A20)) : FO ro 21 (ZM (jbj A20)) := (zt (rc := [none]) (f := 21) (fn := Tryz.f21) (c := za Tryz.f21) (nt := Tryz.f21.ntmps) (res := Tryz.f21.results.toList) (C := Zbj A20) (L := noL) (fun _ _ => rfl) Tryz.func21 (by kernel_rfl) rfl rfl (Zdb A20 h20) (zi (l := []) (by kernel_rfl) Zd)).weak (by
 intro us k h
 unfold ZM at h
 split at h
 ·rw [Jdb]; exact h
 ·exact h.elim)
abbrev zV := Int → (Bt → Prop) → Prop
def JM (A : zV) (us : List W) (k : W → Prop) : Prop := match us with
 | [.i .i64 a0] => A a0 (fun r0 => k (.s r0))
 | _ => False
theorem Jcd {A A2 : zV} (h : FO ro 22 (JM A)) (hA : ∀ a0 K, A2 a0 K → A a0 K) : FO ro 22 (JM A2) := h.weak (by
 intro us k h
 unfold JM at h ⊢
 split at h
 ·exact hA _ _ h
 ·exact h.elim)
def Jbj (A20 : Zi) (a0 : Int) (K : Bt → Prop) : Prop :=
 (((decide (a0 = 0)) = true → K ([] : Bt)) ∧ ((decide (a0 = 0)) = false → (((decide ((0 : Int) < a0)) = true → (A20 a0 (fun y1 => (([43] : Bt).length + y1.length ≤ 1099511627776 ∧ K (([43] : Bt) ++ y1))))) ∧ ((decide ((0 : Int) < a0)) = false → (A20 a0 (fun y2 => K y2))))))
def zbk (A20 : Zi) : ji sg := tab [(20, con [none] (Zm A20))]
theorem zdc (A20 : Zi) (h20 : FO ro 20 (Zm A20)) (o0 : Nat → Prop) : Zj sy Tryz.prog GT (ovD ro) o0 ro (zbk A20) := (ja (zc h20) Jc) o0
theorem jdc (A20 : Zi) (a0 : Int) (k : W → Prop) : fnT sy Tryz.prog GT (zbk A20) noL Tryz.f22.ntmps (za Tryz.f22) [none] Tryz.f22.results.toList [.i .i64 a0] k = Jbj A20 a0 (fun r0 => k (.s r0)) := by kernel_rfl
theorem zdE (A20 : Zi) (h20 : FO ro 20 (Zm A20)) : FO ro 22 (JM (Jbj A20)) := (zt (rc := [none]) (f := 22) (fn := Tryz.f22) (c := za Tryz.f22) (nt := Tryz.f22.ntmps) (res := Tryz.f22.results.toList) (C := zbk A20) (L := noL) (fun _ _ => rfl) Tryz.func22 (by kernel_rfl) rfl rfl (zdc A20 h20) (zi (l := []) (by kernel_rfl) Zd)).weak (by
 intro us k h
 unfold JM at h
 split at h
 ·rw [jdc]; exact h
 ·exact h.elim)
abbrev j7 := (Int × Int) → (Int → Prop) → Prop
def ZW (A : j7) (us : List W) (k : W → Prop) : Prop := match us with
 | [.a [.i .i64 a0_0, .i .i64 a0_1]] => A (a0_0, a0_1) (fun r0 => k (.i .i64 r0))
 | _ => False
theorem jct {A A2 : j7} (h : FO ro 14 (ZW A)) (hA : ∀ a0 K, A2 a0 K → A a0 K) : FO ro 14 (ZW A2) := h.weak (by
 intro us k h
 unfold ZW at h ⊢
 split at h
 ·exact hA _ _ h
 ·exact h.elim)
def ZbI (A23 : jn) (a0 : (Int × Int)) (K : Int → Prop) : Prop :=
 (A23 a0.1 (fun y1 => (((!y1) = false → (A23 a0.2 (fun y2 => (((!y2) = true → K (8 : Int)) ∧ ((!y2) = false → K (0 : Int)))))) ∧ ((!y1) = true → K (8 : Int)))))
def JbI (A23 : jn) : ji sg := tab [(23, con [none] (jq A23))]
theorem jdE (A23 : jn) (h23 : FO ro 23 (jq A23)) (o0 : Nat → Prop) : Zj sy Tryz.prog GT (ovD ro) o0 ro (JbI A23) := (ja (zc h23) Jc) o0
theorem ZdE (A23 : jn) (a0 : (Int × Int)) (k : W → Prop) : fnT sy Tryz.prog GT (JbI A23) noL Tryz.f14.ntmps (za Tryz.f14) [none] Tryz.f14.results.toList [.a [.i .i64 a0.1, .i .i64 a0.2]] k = ZbI A23 a0 (fun r0 => k (.i .i64 r0)) := by kernel_rfl
theorem Zd8 (A23 : jn) (h23 : FO ro 23 (jq A23)) : FO ro 14 (ZW (ZbI A23)) := (zt (rc := [none]) (f := 14) (fn := Tryz.f14) (c := za Tryz.f14) (nt := Tryz.f14.ntmps) (res := Tryz.f14.results.toList) (C := JbI A23) (L := noL) (fun _ _ => rfl) Tryz.func14 (by kernel_rfl) rfl rfl (jdE A23 h23) (zi (l := []) (by kernel_rfl) Zd)).weak (by
 intro us k h
 unfold ZW at h
 split at h
 ·skip
  rename_i a0_0 a0_1
  rw [ZdE A23 (a0_0, a0_1) k]
  exact h
 ·exact h.elim)
abbrev jz := (Int × Int) → (Bt → Int → Prop) → Prop
def zT (A : jz) (us : List W) (k : W → Prop) : Prop := match us with
 | [.a [.i .i64 a0_0, .i .i64 a0_1]] => A (a0_0, a0_1) (fun r0 r1 => k (.t [.s r0, .i .i64 r1]))
 | _ => False
theorem JcU {A A2 : jz} (h : FO ro 13 (zT A)) (hA : ∀ a0 K, A2 a0 K → A a0 K) : FO ro 13 (zT A2) := h.weak (by
 intro us k h
 unfold zT at h ⊢
 split at h
 ·exact hA _ _ h
 ·exact h.elim)
def zce (A14 : j7) (A20 : Zi) (A21 : JU) (A22 : zV) (a0 : (Int × Int)) (K : Bt → Int → Prop) : Prop :=
 (A14 (a0.1, a0.2) (fun y1 => (((decide (y1 ≠ 0)) = true → K ([] : Bt) y1) ∧ ((decide (y1 ≠ 0)) = false → (((decide (a0.1 = 0)) = true → (A20 a0.2 (fun y2 => K y2 (0 : Int)))) ∧ ((decide (a0.1 = 0)) = false → (A21 a0.1 (fun y3 => (y3.length + ([110] : Bt).length ≤ 1099511627776 ∧ (A22 a0.2 (fun y4 => ((y3 ++ ([110] : Bt)).length + y4.length ≤ 1099511627776 ∧ K ((y3 ++ ([110] : Bt)) ++ y4) (0 : Int)))))))))))))
def jce (A14 : j7) (A20 : Zi) (A21 : JU) (A22 : zV) : ji sg := tab [(14, con [none] (ZW A14)), (20, con [none] (Zm A20)), (21, con [none] (ZM A21)), (22, con [none] (JM A22))]
theorem Jd8 (A14 : j7) (A20 : Zi) (A21 : JU) (A22 : zV) (h14 : FO ro 14 (ZW A14)) (h20 : FO ro 20 (Zm A20)) (h21 : FO ro 21 (ZM A21)) (h22 : FO ro 22 (JM A22)) (o0 : Nat → Prop) : Zj sy Tryz.prog GT (ovD ro) o0 ro (jce A14 A20 A21 A22) := (ja (zc h14) (ja (zc h20) (ja (zc h21) (ja (zc h22) Jc)))) o0
theorem zd9 (A14 : j7) (A20 : Zi) (A21 : JU) (A22 : zV) (a0 : (Int × Int)) (k : W → Prop) : fnT sy Tryz.prog GT (jce A14 A20 A21 A22) noL Tryz.f13.ntmps (za Tryz.f13) [none, none] Tryz.f13.results.toList [.a [.i .i64 a0.1, .i .i64 a0.2]] k = zce A14 A20 A21 A22 a0 (fun r0 r1 => k (.t [.s r0, .i .i64 r1])) := by kernel_rfl
theorem jeA (A14 : j7) (A20 : Zi) (A21 : JU) (A22 : zV) (h14 : FO ro 14 (ZW A14)) (h20 : FO ro 20 (Zm A20)) (h21 : FO ro 21 (ZM A21)) (h22 : FO ro 22 (JM A22)) : FO ro 13 (zT (zce A14 A20 A21 A22)) := (zt (rc := [none, none]) (f := 13) (fn := Tryz.f13) (c := za Tryz.f13) (nt := Tryz.f13.ntmps) (res := Tryz.f13.results.toList) (C := jce A14 A20 A21 A22) (L := noL) (fun _ _ => rfl) Tryz.func13 (by kernel_rfl) rfl rfl (Jd8 A14 A20 A21 A22 h14 h20 h21 h22) (zi (l := []) (by kernel_rfl) Zd)).weak (by
 intro us k h
 unfold zT at h
 split at h
 ·skip
  rename_i a0_0 a0_1
  rw [zd9 A14 A20 A21 A22 (a0_0, a0_1) k]
  exact h
 ·exact h.elim)
abbrev jC := Tok → (Int → Bool → Prop) → Prop
def ZE (A : jC) (us : List W) (k : W → Prop) : Prop := match us with
 | [.a [.i .u8 a0_0, .s a0_1, .i .i64 a0_2, .s a0_3, .b a0_4]] => A (Tok.mk a0_0 a0_1 a0_2 a0_3 a0_4) (fun r0 r1 => k (.t [.i .i64 r0, .b r1]))
 | _ => False
theorem Zct {A A2 : jC} (h : FO ro 38 (ZE A)) (hA : ∀ a0 K, A2 a0 K → A a0 K) : FO ro 38 (ZE A2) := h.weak (by
 intro us k h
 unfold ZE at h ⊢
 split at h
 ·exact hA _ _ h
 ·exact h.elim)
def zbJ (A23 : jn) (a0 : Tok) (K : Int → Bool → Prop) : Prop :=
 ((1000 : Int) ≠ 0 ∧ (I64 (a0.num.tdiv (1000 : Int)) ∧ (((!a0.flag) = false → ((1000 : Int) ≠ 0 ∧ (((decide ((a0.num.tmod (1000 : Int)) ≠ 0)) = false → (A23 (a0.num.tdiv (1000 : Int)) (fun y1 => (((!y1) = true → K (0 : Int) false) ∧ ((!y1) = false → K (a0.num.tdiv (1000 : Int)) true))))) ∧ ((decide ((a0.num.tmod (1000 : Int)) ≠ 0)) = true → K (0 : Int) false)))) ∧ ((!a0.flag) = true → K (0 : Int) false))))
def jbJ (A23 : jn) : ji sg := tab [(23, con [none] (jq A23))]
theorem JdE (A23 : jn) (h23 : FO ro 23 (jq A23)) (o0 : Nat → Prop) : Zj sy Tryz.prog GT (ovD ro) o0 ro (jbJ A23) := (ja (zc h23) Jc) o0
theorem zdF (A23 : jn) (a0 : Tok) (k : W → Prop) : fnT sy Tryz.prog GT (jbJ A23) noL Tryz.f38.ntmps (za Tryz.f38) [none, none] Tryz.f38.results.toList [.a [.i .u8 a0.kind, .s a0.text, .i .i64 a0.num, .s a0.unit, .b a0.flag]] k = zbJ A23 a0 (fun r0 r1 => k (.t [.i .i64 r0, .b r1])) := by kernel_rfl
theorem jd9 (A23 : jn) (h23 : FO ro 23 (jq A23)) : FO ro 38 (ZE (zbJ A23)) := (zt (rc := [none, none]) (f := 38) (fn := Tryz.f38) (c := za Tryz.f38) (nt := Tryz.f38.ntmps) (res := Tryz.f38.results.toList) (C := jbJ A23) (L := noL) (fun _ _ => rfl) Tryz.func38 (by kernel_rfl) rfl rfl (JdE A23 h23) (zi (l := []) (by kernel_rfl) Zd)).weak (by
 intro us k h
 unfold ZE at h
 split at h
 ·skip
  rename_i a0_0 a0_1 a0_2 a0_3 a0_4
  rw [zdF A23 (Tok.mk a0_0 a0_1 a0_2 a0_3 a0_4) k]
  exact h
 ·exact h.elim)
abbrev Jk := List Tok → (Int → Bool → Prop) → Prop
def Zp (A : Jk) (us : List W) (k : W → Prop) : Prop := match us with
 | [.l Cd.tok a0] => A a0 (fun r0 r1 => k (.t [.i .i64 r0, .b r1]))
 | _ => False
theorem Zce {A A2 : Jk} (h : FO ro 37 (Zp A)) (hA : ∀ a0 K, A2 a0 K → A a0 K) : FO ro 37 (Zp A2) := h.weak (by
 intro us k h
 unfold Zp at h ⊢
 split at h
 ·exact hA _ _ h
 ·exact h.elim)
def jbk (A38 : jC) (a0 : List Tok) (K : Int → Bool → Prop) : Prop :=
 (((decide ((a0.length : Int) ≠ (1 : Int))) = false → ((0 ≤ (0 : Int) ∧ (0 : Int) < (a0.length : Int)) ∧ (((decide (((a0.getD 0 (zI Cd.tok)).kind) ≠ (10 : Int))) = true → K (0 : Int) false) ∧ ((decide (((a0.getD 0 (zI Cd.tok)).kind) ≠ (10 : Int))) = false → ((0 ≤ (0 : Int) ∧ (0 : Int) < (a0.length : Int)) ∧ (A38 (Tok.mk ((a0.getD 0 (zI Cd.tok)).kind) ((a0.getD 0 (zI Cd.tok)).text) ((a0.getD 0 (zI Cd.tok)).num) ((a0.getD 0 (zI Cd.tok)).unit) ((a0.getD 0 (zI Cd.tok)).flag)) (fun y1 y2 => K y1 y2))))))) ∧ ((decide ((a0.length : Int) ≠ (1 : Int))) = true → K (0 : Int) false))
def Zbk (A38 : jC) : ji sg := tab [(38, con [none] (ZE A38))]
theorem Zdc (A38 : jC) (h38 : FO ro 38 (ZE A38)) (o0 : Nat → Prop) : Zj sy Tryz.prog GT (ovD ro) o0 ro (Zbk A38) := (ja (zc h38) Jc) o0
theorem Jdc (A38 : jC) (a0 : List Tok) (k : W → Prop) : fnT sy Tryz.prog GT (Zbk A38) noL Tryz.f37.ntmps (za Tryz.f37) [none, none] Tryz.f37.results.toList [.l Cd.tok a0] k = jbk A38 a0 (fun r0 r1 => k (.t [.i .i64 r0, .b r1])) := by kernel_rfl
theorem jdF (A38 : jC) (h38 : FO ro 38 (ZE A38)) : FO ro 37 (Zp (jbk A38)) := (zt (rc := [none, none]) (f := 37) (fn := Tryz.f37) (c := za Tryz.f37) (nt := Tryz.f37.ntmps) (res := Tryz.f37.results.toList) (C := Zbk A38) (L := noL) (fun _ _ => rfl) Tryz.func37 (by kernel_rfl) rfl rfl (Zdc A38 h38) (zi (l := []) (by kernel_rfl) Zd)).weak (by
 intro us k h
 unfold Zp at h
 split at h
 ·skip
  rename_i a0
  rw [Jdc A38 a0 k]
  exact h
 ·exact h.elim)
abbrev Jq := Tok → Bt → (Bool → Prop) → Prop
def Zu (A : Jq) (us : List W) (k : W → Prop) : Prop := match us with
 | [.a [.i .u8 a0_0, .s a0_1, .i .i64 a0_2, .s a0_3, .b a0_4], .s a1] => A (Tok.mk a0_0 a0_1 a0_2 a0_3 a0_4) a1 (fun r0 => k (.b r0))
 | _ => False
theorem zbY {A A2 : Jq} (h : FO ro 39 (Zu A)) (hA : ∀ a0 a1 K, A2 a0 a1 K → A a0 a1 K) : FO ro 39 (Zu A2) := h.weak (by
 intro us k h
 unfold Zu at h ⊢
 split at h
 ·exact hA _ _ _ h
 ·exact h.elim)
def Ja3 (a0 : Tok) (a1 : Bt) (K : Bool → Prop) : Prop :=
 (((decide (a0.kind = 9)) = true → K (a0.text == a1)) ∧ ((decide (a0.kind = 9)) = false → K false))
def za4 : ji sg := tab []
theorem zcV (o0 : Nat → Prop) : Zj sy Tryz.prog GT (ovD ro) o0 ro (za4) := Jc o0
theorem jcV (a0 : Tok) (a1 : Bt) (k : W → Prop) : fnT sy Tryz.prog GT (za4) noL Tryz.f39.ntmps (za Tryz.f39) [none] Tryz.f39.results.toList [.a [.i .u8 a0.kind, .s a0.text, .i .i64 a0.num, .s a0.unit, .b a0.flag], .s a1] k = Ja3 a0 a1 (fun r0 => k (.b r0)) := by kernel_rfl
theorem zdd : FO ro 39 (Zu (Ja3)) := (zt (rc := [none]) (f := 39) (fn := Tryz.f39) (c := za Tryz.f39) (nt := Tryz.f39.ntmps) (res := Tryz.f39.results.toList) (C := za4) (L := noL) (fun _ _ => rfl) Tryz.func39 (by kernel_rfl) rfl rfl (zcV) (zi (l := []) (by kernel_rfl) Zd)).weak (by
 intro us k h
 unfold Zu at h
 split at h
 ·skip
  rename_i a0_0 a0_1 a0_2 a0_3 a0_4 a1
  rw [jcV (Tok.mk a0_0 a0_1 a0_2 a0_3 a0_4) a1 k]
  exact h
 ·exact h.elim)
abbrev Jl := List Tok → (List Tok → Prop) → Prop
def zE (A : Jl) (us : List W) (k : W → Prop) : Prop := match us with
 | [.l Cd.tok a0] => A a0 (fun r0 => k (.l Cd.tok r0))
 | _ => False
theorem jdd {A A2 : Jl} (h : FO ro 35 (zE A)) (hA : ∀ a0 K, A2 a0 K → A a0 K) : FO ro 35 (zE A2) := h.weak (by
 intro us k h
 unfold zE at h ⊢
 split at h
 ·exact hA _ _ h
 ·exact h.elim)
def Z7 : Nat → List Tok → (List Tok → Prop) → Prop
 | 0, _, _ => False
 | n + 1, x0, Ke => (((decide ((0 : Int) < (x0.length : Int))) = true → ((0 ≤ (0 : Int) ∧ (0 : Int) < (x0.length : Int)) ∧ (((decide (((x0.getD 0 (zI Cd.tok)).kind) = (13 : Int))) = true → ((0 ≤ (1 : Int) ∧ (1 : Int) ≤ (x0.length : Int)) ∧ Z7 n (x0.drop 1) Ke)) ∧ ((decide (((x0.getD 0 (zI Cd.tok)).kind) = (13 : Int))) = false → Ke x0)))) ∧ ((decide ((0 : Int) < (x0.length : Int))) = false → Ke x0))
def ZcV (a0 : List Tok) (K : List Tok → Prop) : Prop :=
 (∃ m, Z7 m a0 (fun y1 => K y1))
def jbY : ji sg := tab []
theorem JcV (o0 : Nat → Prop) : Zj sy Tryz.prog GT (ovD ro) o0 ro (jbY) := Jc o0
abbrev Jbk : Type := ((List (sg.Den Cd.tok)) × Unit)
abbrev Yb_anb_bSp_1 : Type := Unit
def ls_anb_bSp_1 : LS sy Jbk Yb_anb_bSp_1 := ⟨[], Zf 0 (jf1 sy Cd.tok) (jab sy), Zab sy, 0, []⟩
def le_anb_bSp_1 : LS sy ((List (sg.Den Cd.tok)) × Unit) Unit := ⟨[], Zf 0 (jf1 sy Cd.tok) (jab sy), Zab sy, 0, []⟩
def zbl : LS sy Unit Unit := ⟨[], jab sy, Zab sy, 0, []⟩
def jaI (n : Nat) (x : Jbk × Yb_anb_bSp_1) (K : Ex → Z sg → Prop) : Prop := Z7 n x.1.1 (fun y0 => K (.exit 0) (le_anb_bSp_1.put ((y0, ()), ())))
def ZeA (z : Z sg) (K : Ex → Z sg → Prop) : Prop := ls_anb_bSp_1.get z (fun x => ∃ n, jaI n x K)
def JaU : Z5 sg := Zc4 [(1, ZeA)]
theorem Zd9 (n : Nat) (x : Jbk × Yb_anb_bSp_1) (K : Ex → Z sg → Prop) : zJ (ls_anb_bSp_1.put x) (fun z => sC sy Tryz.prog GT (jbY) (JaU) Tryz.f35.ntmps (Zb (za Tryz.f35) 0) z (rnd ls_anb_bSp_1 (czT 0 le_anb_bSp_1 zbl) (fun x => jaI n x K) K)) = jaI (n + 1) x K := by kernel_rfl
theorem Jd9 (z : Z sg) (K : Ex → Z sg → Prop) : (JaU) (Zb (za Tryz.f35) 0) z K = ls_anb_bSp_1.get z (fun x => ∃ n, jaI n x K) := by kernel_rfl
theorem zea : ∀ (o0 : Nat → Prop) (B : Bs sg), B.E.length ≤ 0 → ∀ z K, (JaU) (Zb (za Tryz.f35) 0) z K → Sx.Sem sy Tryz.prog GT (ovD ro) o0 ro Tryz.f35.ntmps B (.loop (Zb (za Tryz.f35) 0)) z K :=
 jS (JcV) (zi (l := []) (by kernel_rfl) Zd) ls_anb_bSp_1 (by decide) (czT 0 le_anb_bSp_1 zbl) (fun _ _ hB => Zag 0 le_anb_bSp_1 zbl (Nat.le_trans hB (by decide)) (Nat.le_trans hB (by decide))) (fun _ _ h => h) (Zd9) (Jd9)
theorem je8 : Zcx sy Tryz.prog GT (ovD ro) ro (JaU) 0 Tryz.f35.ntmps (za Tryz.f35) := zi (l := [(Zb (za Tryz.f35) 0)]) (by kernel_rfl) (zS (zea) Zd)
theorem JeA (a0 : List Tok) (k : W → Prop) : fnT sy Tryz.prog GT (jbY) (JaU) Tryz.f35.ntmps (za Tryz.f35) [some Cd.tok] Tryz.f35.results.toList [.l Cd.tok a0] k = ZcV a0 (fun r0 => k (.l Cd.tok r0)) := by kernel_rfl
theorem Ze8 : FO ro 35 (zE (ZcV)) := (zt (rc := [some Cd.tok]) (f := 35) (fn := Tryz.f35) (c := za Tryz.f35) (nt := Tryz.f35.ntmps) (res := Tryz.f35.results.toList) (C := jbY) (L := (JaU)) (fun _ _ => rfl) Tryz.func35 (by kernel_rfl) rfl rfl (JcV) (je8)).weak (by
 intro us k h
 unfold zE at h
 split at h
 ·skip
  rename_i a0
  rw [JeA a0 k]
  exact h
 ·exact h.elim)
abbrev zN := List Tok → (List Tok → Prop) → Prop
def ZF (A : zN) (us : List W) (k : W → Prop) : Prop := match us with
 | [.l Cd.tok a0] => A a0 (fun r0 => k (.l Cd.tok r0))
 | _ => False
theorem ZbY {A A2 : zN} (h : FO ro 26 (ZF A)) (hA : ∀ a0 K, A2 a0 K → A a0 K) : FO ro 26 (ZF A2) := h.weak (by
 intro us k h
 unfold ZF at h ⊢
 split at h
 ·exact hA _ _ h
 ·exact h.elim)
def JE (A35 : Jl) : Nat → List Tok → (List Tok → Prop) → Prop
 | 0, _, _ => False
 | n + 1, x0, Ke => (((decide ((0 : Int) < (x0.length : Int))) = true → (I64 ((x0.length : Int) - (1 : Int)) ∧ ((0 ≤ ((x0.length : Int) - (1 : Int)) ∧ ((x0.length : Int) - (1 : Int)) < (x0.length : Int)) ∧ (((decide (((x0.getD (((x0.length : Int) - (1 : Int)).toNat) (zI Cd.tok)).kind) = (13 : Int))) = true → (I64 ((x0.length : Int) - (1 : Int)) ∧ ((0 ≤ ((x0.length : Int) - (1 : Int)) ∧ ((x0.length : Int) - (1 : Int)) ≤ (x0.length : Int)) ∧ JE A35 n (x0.take ((x0.length : Int) - (1 : Int)).toNat) Ke))) ∧ ((decide (((x0.getD (((x0.length : Int) - (1 : Int)).toNat) (zI Cd.tok)).kind) = (13 : Int))) = false → Ke x0))))) ∧ ((decide ((0 : Int) < (x0.length : Int))) = false → Ke x0))
def ja4 (A35 : Jl) (a0 : List Tok) (K : List Tok → Prop) : Prop :=
 (A35 a0 (fun y1 => (∃ m, JE A35 m y1 (fun y2 => K y2))))
def Zay (A35 : Jl) : ji sg := tab [(35, con [some Cd.tok] (zE A35))]
theorem jbl (A35 : Jl) (h35 : FO ro 35 (zE A35)) (o0 : Nat → Prop) : Zj sy Tryz.prog GT (ovD ro) o0 ro (Zay A35) := (ja (zc h35) Jc) o0
abbrev zat : Type := ((List (sg.Den Cd.tok)) × Unit)
abbrev Yb_anb_trimmed_2 : Type := Unit
def ls_anb_trimmed_2 : LS sy zat Yb_anb_trimmed_2 := ⟨[], Zf 0 (jf1 sy Cd.tok) (jab sy), Zab sy, 0, []⟩
def le_anb_trimmed_2 : LS sy ((List (sg.Den Cd.tok)) × Unit) Unit := ⟨[], Zf 0 (jf1 sy Cd.tok) (jab sy), Zab sy, 0, []⟩
def jat : LS sy Unit Unit := ⟨[], jab sy, Zab sy, 0, []⟩
def Zad (A35 : Jl) (n : Nat) (x : zat × Yb_anb_trimmed_2) (K : Ex → Z sg → Prop) : Prop := JE A35 n x.1.1 (fun y0 => K (.exit 0) (le_anb_trimmed_2.put ((y0, ()), ())))
def zcW (A35 : Jl) (z : Z sg) (K : Ex → Z sg → Prop) : Prop := ls_anb_trimmed_2.get z (fun x => ∃ n, Zad A35 n x K)
def Zaa (A35 : Jl) : Z5 sg := Zc4 [(2, zcW A35)]
theorem Jct (A35 : Jl) (n : Nat) (x : zat × Yb_anb_trimmed_2) (K : Ex → Z sg → Prop) : zJ (ls_anb_trimmed_2.put x) (fun z => sC sy Tryz.prog GT (Zay A35) (Zaa A35) Tryz.f26.ntmps (Zb (za Tryz.f26) 0) z (rnd ls_anb_trimmed_2 (czT 0 le_anb_trimmed_2 jat) (fun x => Zad A35 n x K) K)) = Zad A35 (n + 1) x K := by kernel_rfl
theorem zcu (A35 : Jl) (z : Z sg) (K : Ex → Z sg → Prop) : (Zaa A35) (Zb (za Tryz.f26) 0) z K = ls_anb_trimmed_2.get z (fun x => ∃ n, Zad A35 n x K) := by kernel_rfl
theorem jcu (A35 : Jl) (h35 : FO ro 35 (zE A35)) : ∀ (o0 : Nat → Prop) (B : Bs sg), B.E.length ≤ 0 → ∀ z K, (Zaa A35) (Zb (za Tryz.f26) 0) z K → Sx.Sem sy Tryz.prog GT (ovD ro) o0 ro Tryz.f26.ntmps B (.loop (Zb (za Tryz.f26) 0)) z K :=
 jS (jbl A35 h35) (zi (l := []) (by kernel_rfl) Zd) ls_anb_trimmed_2 (by decide) (czT 0 le_anb_trimmed_2 jat) (fun _ _ hB => Zag 0 le_anb_trimmed_2 jat (Nat.le_trans hB (by decide)) (Nat.le_trans hB (by decide))) (fun _ _ h => h) (Jct A35) (zcu A35)
theorem Zdd (A35 : Jl) (h35 : FO ro 35 (zE A35)) : Zcx sy Tryz.prog GT (ovD ro) ro (Zaa A35) 0 Tryz.f26.ntmps (za Tryz.f26) := zi (l := [(Zb (za Tryz.f26) 0)]) (by kernel_rfl) (zS (jcu A35 h35) Zd)
theorem jcW (A35 : Jl) (a0 : List Tok) (k : W → Prop) : fnT sy Tryz.prog GT (Zay A35) (Zaa A35) Tryz.f26.ntmps (za Tryz.f26) [some Cd.tok] Tryz.f26.results.toList [.l Cd.tok a0] k = ja4 A35 a0 (fun r0 => k (.l Cd.tok r0)) := by kernel_rfl
theorem Jdd (A35 : Jl) (h35 : FO ro 35 (zE A35)) : FO ro 26 (ZF (ja4 A35)) := (zt (rc := [some Cd.tok]) (f := 26) (fn := Tryz.f26) (c := za Tryz.f26) (nt := Tryz.f26.ntmps) (res := Tryz.f26.results.toList) (C := Zay A35) (L := (Zaa A35)) (fun _ _ => rfl) Tryz.func26 (by kernel_rfl) rfl rfl (jbl A35 h35) (Zdd A35 h35)).weak (by
 intro us k h
 unfold ZF at h
 split at h
 ·skip
  rename_i a0
  rw [jcW A35 a0 k]
  exact h
 ·exact h.elim)
abbrev J7 := List Tok → ((Int × Int) → Bool → Prop) → Prop
def zX (A : J7) (us : List W) (k : W → Prop) : Prop := match us with
 | [.l Cd.tok a0] => A a0 (fun r0 r1 => k (.t [.a [.i .i64 r0.1, .i .i64 r0.2], .b r1]))
 | _ => False
theorem Zcu {A A2 : J7} (h : FO ro 27 (zX A)) (hA : ∀ a0 K, A2 a0 K → A a0 K) : FO ro 27 (zX A2) := h.weak (by
 intro us k h
 unfold zX at h ⊢
 split at h
 ·exact hA _ _ h
 ·exact h.elim)
def ZbJ (A36 : JS) (A37 : Jk) (a0 : List Tok) (K : (Int × Int) → Bool → Prop) : Prop :=
 (((decide ((a0.length : Int) = (1 : Int))) = true → ((0 ≤ (0 : Int) ∧ (0 : Int) < (a0.length : Int)) ∧ (((decide (((a0.getD 0 (zI Cd.tok)).kind) = (1 : Int))) = true → ((0 ≤ (0 : Int) ∧ (0 : Int) < (a0.length : Int)) ∧ (A36 ((a0.getD 0 (zI Cd.tok)).text) (fun y1 => (((y1 == ([111, 100, 100] : Bt)) = true → K ((2 : Int), (1 : Int)) true) ∧ ((y1 == ([111, 100, 100] : Bt)) = false → (((y1 == ([101, 118, 101, 110] : Bt)) = true → K ((2 : Int), (0 : Int)) true) ∧ ((y1 == ([101, 118, 101, 110] : Bt)) = false → (A37 a0 (fun y2 y3 => K ((0 : Int), y2) y3)))))))))) ∧ ((decide (((a0.getD 0 (zI Cd.tok)).kind) = (1 : Int))) = false → (A37 a0 (fun y4 y5 => K ((0 : Int), y4) y5)))))) ∧ ((decide ((a0.length : Int) = (1 : Int))) = false → (A37 a0 (fun y6 y7 => K ((0 : Int), y6) y7))))
def JbJ (A36 : JS) (A37 : Jk) : ji sg := tab [(36, con [none] (jZ A36)), (37, con [some Cd.tok] (Zp A37))]
theorem ZdF (A36 : JS) (A37 : Jk) (h36 : FO ro 36 (jZ A36)) (h37 : FO ro 37 (Zp A37)) (o0 : Nat → Prop) : Zj sy Tryz.prog GT (ovD ro) o0 ro (JbJ A36 A37) := (ja (zc h36) (ja (zc h37) Jc)) o0
theorem JdF (A36 : JS) (A37 : Jk) (a0 : List Tok) (k : W → Prop) : fnT sy Tryz.prog GT (JbJ A36 A37) noL Tryz.f27.ntmps (za Tryz.f27) [none, none] Tryz.f27.results.toList [.l Cd.tok a0] k = ZbJ A36 A37 a0 (fun r0 r1 => k (.t [.a [.i .i64 r0.1, .i .i64 r0.2], .b r1])) := by kernel_rfl
theorem jea (A36 : JS) (A37 : Jk) (h36 : FO ro 36 (jZ A36)) (h37 : FO ro 37 (Zp A37)) : FO ro 27 (zX (ZbJ A36 A37)) := (zt (rc := [none, none]) (f := 27) (fn := Tryz.f27) (c := za Tryz.f27) (nt := Tryz.f27.ntmps) (res := Tryz.f27.results.toList) (C := JbJ A36 A37) (L := noL) (fun _ _ => rfl) Tryz.func27 (by kernel_rfl) rfl rfl (ZdF A36 A37 h36 h37) (zi (l := []) (by kernel_rfl) Zd)).weak (by
 intro us k h
 unfold zX at h
 split at h
 ·skip
  rename_i a0
  rw [JdF A36 A37 a0 k]
  exact h
 ·exact h.elim)
abbrev jN := List Tok → (Int → Bt → List Tok → Bool → Prop) → Prop
def JF (A : jN) (us : List W) (k : W → Prop) : Prop := match us with
 | [.l Cd.tok a0] => A a0 (fun r0 r1 r2 r3 => k (.t [.i .i64 r0, .s r1, .l Cd.tok r2, .b r3]))
 | _ => False
theorem JbY {A A2 : jN} (h : FO ro 28 (JF A)) (hA : ∀ a0 K, A2 a0 K → A a0 K) : FO ro 28 (JF A2) := h.weak (by
 intro us k h
 unfold JF at h ⊢
 split at h
 ·exact hA _ _ h
 ·exact h.elim)
def Za4 (A36 : JS) (A29 : zh) (A38 : jC) (A39 : Jq) (a0 : List Tok) (K : Int → Bt → List Tok → Bool → Prop) : Prop :=
 (((decide ((a0.length : Int) = (0 : Int))) = true → K (0 : Int) ([] : Bt) ([] : List Tok) false) ∧ ((decide ((a0.length : Int) = (0 : Int))) = false → ((0 ≤ (0 : Int) ∧ (0 : Int) < (a0.length : Int)) ∧ (((decide (((a0.getD 0 (zI Cd.tok)).kind) = (1 : Int))) = true → ((0 ≤ (0 : Int) ∧ (0 : Int) < (a0.length : Int)) ∧ (A36 ((a0.getD 0 (zI Cd.tok)).text) (fun y1 => (A29 y1 ([45] : Bt) (fun y2 y3 => ((y3 = true → ((0 ≤ (1 : Int) ∧ (1 : Int) ≤ (a0.length : Int)) ∧ K (-1 : Int) y2 (a0.drop 1) true)) ∧ (y3 = false → ((0 ≤ (1 : Int) ∧ (1 : Int) ≤ (a0.length : Int)) ∧ K (1 : Int) y2 (a0.drop 1) true))))))))) ∧ ((decide (((a0.getD 0 (zI Cd.tok)).kind) = (1 : Int))) = false → ((0 ≤ (0 : Int) ∧ (0 : Int) < (a0.length : Int)) ∧ (((decide (((a0.getD 0 (zI Cd.tok)).kind) = (12 : Int))) = true → ((0 ≤ (0 : Int) ∧ (0 : Int) < (a0.length : Int)) ∧ (A38 (Tok.mk ((a0.getD 0 (zI Cd.tok)).kind) ((a0.getD 0 (zI Cd.tok)).text) ((a0.getD 0 (zI Cd.tok)).num) ((a0.getD 0 (zI Cd.tok)).unit) ((a0.getD 0 (zI Cd.tok)).flag)) (fun y4 y5 => ((0 ≤ (0 : Int) ∧ (0 : Int) < (a0.length : Int)) ∧ (A36 ((a0.getD 0 (zI Cd.tok)).unit) (fun y6 => ((0 ≤ (1 : Int) ∧ (1 : Int) ≤ (a0.length : Int)) ∧ K y4 y6 (a0.drop 1) y5)))))))) ∧ ((decide (((a0.getD 0 (zI Cd.tok)).kind) = (12 : Int))) = false → ((0 ≤ (0 : Int) ∧ (0 : Int) < (a0.length : Int)) ∧ (A39 (Tok.mk ((a0.getD 0 (zI Cd.tok)).kind) ((a0.getD 0 (zI Cd.tok)).text) ((a0.getD 0 (zI Cd.tok)).num) ((a0.getD 0 (zI Cd.tok)).unit) ((a0.getD 0 (zI Cd.tok)).flag)) ([43] : Bt) (fun y7 => ((y7 = true → (((decide ((1 : Int) < (a0.length : Int))) = true → ((0 ≤ (1 : Int) ∧ (1 : Int) < (a0.length : Int)) ∧ (((decide (((a0.getD 1 (zI Cd.tok)).kind) = (1 : Int))) = true → ((0 ≤ (1 : Int) ∧ (1 : Int) < (a0.length : Int)) ∧ (A36 ((a0.getD 1 (zI Cd.tok)).text) (fun y8 => ((0 ≤ (2 : Int) ∧ (2 : Int) ≤ (a0.length : Int)) ∧ K (1 : Int) y8 (a0.drop 2) true))))) ∧ ((decide (((a0.getD 1 (zI Cd.tok)).kind) = (1 : Int))) = false → K (0 : Int) ([] : Bt) ([] : List Tok) false)))) ∧ ((decide ((1 : Int) < (a0.length : Int))) = false → K (0 : Int) ([] : Bt) ([] : List Tok) false))) ∧ (y7 = false → K (0 : Int) ([] : Bt) ([] : List Tok) false)))))))))))))
def Ja4 (A36 : JS) (A29 : zh) (A38 : jC) (A39 : Jq) : ji sg := tab [(36, con [none] (jZ A36)), (29, con [none, none] (zk A29)), (38, con [none] (ZE A38)), (39, con [none, none] (Zu A39))]
theorem ZcW (A36 : JS) (A29 : zh) (A38 : jC) (A39 : Jq) (h36 : FO ro 36 (jZ A36)) (h29 : FO ro 29 (zk A29)) (h38 : FO ro 38 (ZE A38)) (h39 : FO ro 39 (Zu A39)) (o0 : Nat → Prop) : Zj sy Tryz.prog GT (ovD ro) o0 ro (Ja4 A36 A29 A38 A39) := (ja (zc h36) (ja (zc h29) (ja (zc h38) (ja (zc h39) Jc)))) o0
theorem JcW (A36 : JS) (A29 : zh) (A38 : jC) (A39 : Jq) (a0 : List Tok) (k : W → Prop) : fnT sy Tryz.prog GT (Ja4 A36 A29 A38 A39) noL Tryz.f28.ntmps (za Tryz.f28) [none, none, some Cd.tok, none] Tryz.f28.results.toList [.l Cd.tok a0] k = Za4 A36 A29 A38 A39 a0 (fun r0 r1 r2 r3 => k (.t [.i .i64 r0, .s r1, .l Cd.tok r2, .b r3])) := by kernel_rfl
theorem zde (A36 : JS) (A29 : zh) (A38 : jC) (A39 : Jq) (h36 : FO ro 36 (jZ A36)) (h29 : FO ro 29 (zk A29)) (h38 : FO ro 38 (ZE A38)) (h39 : FO ro 39 (Zu A39)) : FO ro 28 (JF (Za4 A36 A29 A38 A39)) := (zt (rc := [none, none, some Cd.tok, none]) (f := 28) (fn := Tryz.f28) (c := za Tryz.f28) (nt := Tryz.f28.ntmps) (res := Tryz.f28.results.toList) (C := Ja4 A36 A29 A38 A39) (L := noL) (fun _ _ => rfl) Tryz.func28 (by kernel_rfl) rfl rfl (ZcW A36 A29 A38 A39 h36 h29 h38 h39) (zi (l := []) (by kernel_rfl) Zd)).weak (by
 intro us k h
 unfold JF at h
 split at h
 ·skip
  rename_i a0
  rw [JcW A36 A29 A38 A39 a0 k]
  exact h
 ·exact h.elim)
abbrev zr := Int → Bool → (Int → Bool → Prop) → Prop
def Ju (A : zr) (us : List W) (k : W → Prop) : Prop := match us with
 | [.i .i64 a0, .b a1] => A a0 a1 (fun r0 r1 => k (.t [.i .i64 r0, .b r1]))
 | _ => False
theorem zbZ {A A2 : zr} (h : FO ro 42 (Ju A)) (hA : ∀ a0 a1 K, A2 a0 a1 K → A a0 a1 K) : FO ro 42 (Ju A2) := h.weak (by
 intro us k h
 unfold Ju at h ⊢
 split at h
 ·exact hA _ _ _ h
 ·exact h.elim)
def za5 (a0 : Int) (a1 : Bool) (K : Int → Bool → Prop) : Prop :=
 (I64 (0 - a0) ∧ K (0 - a0) a1)
def ja5 : ji sg := tab []
theorem zcX (o0 : Nat → Prop) : Zj sy Tryz.prog GT (ovD ro) o0 ro (ja5) := Jc o0
theorem jcX (a0 : Int) (a1 : Bool) (k : W → Prop) : fnT sy Tryz.prog GT (ja5) noL Tryz.f42.ntmps (za Tryz.f42) [none, none] Tryz.f42.results.toList [.i .i64 a0, .b a1] k = za5 a0 a1 (fun r0 r1 => k (.t [.i .i64 r0, .b r1])) := by kernel_rfl
theorem jde : FO ro 42 (Ju (za5)) := (zt (rc := [none, none]) (f := 42) (fn := Tryz.f42) (c := za Tryz.f42) (nt := Tryz.f42.ntmps) (res := Tryz.f42.results.toList) (C := ja5) (L := noL) (fun _ _ => rfl) Tryz.func42 (by kernel_rfl) rfl rfl (zcX) (zi (l := []) (by kernel_rfl) Zd)).weak (by
 intro us k h
 unfold Ju at h
 split at h
 ·rw [jcX]; exact h
 ·exact h.elim)
abbrev Zn := List Tok → (Int → Bool → Prop) → Prop
def Zq (A : Zn) (us : List W) (k : W → Prop) : Prop := match us with
 | [.l Cd.tok a0] => A a0 (fun r0 r1 => k (.t [.i .i64 r0, .b r1]))
 | _ => False
theorem zbK {A A2 : Zn} (h : FO ro 43 (Zq A)) (hA : ∀ a0 K, A2 a0 K → A a0 K) : FO ro 43 (Zq A2) := h.weak (by
 intro us k h
 unfold Zq at h ⊢
 split at h
 ·exact hA _ _ h
 ·exact h.elim)
def jaN (A35 : Jl) (A37 : Jk) (a0 : List Tok) (K : Int → Bool → Prop) : Prop :=
 (A35 a0 (fun y1 => (A37 y1 (fun y2 y3 => (((decide (y2 < 0)) = true → K (0 : Int) false) ∧ ((decide (y2 < 0)) = false → K y2 y3))))))
def ZaN (A35 : Jl) (A37 : Jk) : ji sg := tab [(35, con [some Cd.tok] (zE A35)), (37, con [some Cd.tok] (Zp A37))]
theorem Jcu (A35 : Jl) (A37 : Jk) (h35 : FO ro 35 (zE A35)) (h37 : FO ro 37 (Zp A37)) (o0 : Nat → Prop) : Zj sy Tryz.prog GT (ovD ro) o0 ro (ZaN A35 A37) := (ja (zc h35) (ja (zc h37) Jc)) o0
theorem zcv (A35 : Jl) (A37 : Jk) (a0 : List Tok) (k : W → Prop) : fnT sy Tryz.prog GT (ZaN A35 A37) noL Tryz.f43.ntmps (za Tryz.f43) [none, none] Tryz.f43.results.toList [.l Cd.tok a0] k = jaN A35 A37 a0 (fun r0 r1 => k (.t [.i .i64 r0, .b r1])) := by kernel_rfl
theorem ZcX (A35 : Jl) (A37 : Jk) (h35 : FO ro 35 (zE A35)) (h37 : FO ro 37 (Zp A37)) : FO ro 43 (Zq (jaN A35 A37)) := (zt (rc := [none, none]) (f := 43) (fn := Tryz.f43) (c := za Tryz.f43) (nt := Tryz.f43.ntmps) (res := Tryz.f43.results.toList) (C := ZaN A35 A37) (L := noL) (fun _ _ => rfl) Tryz.func43 (by kernel_rfl) rfl rfl (Jcu A35 A37 h35 h37) (zi (l := []) (by kernel_rfl) Zd)).weak (by
 intro us k h
 unfold Zq at h
 split at h
 ·skip
  rename_i a0
  rw [zcv A35 A37 a0 k]
  exact h
 ·exact h.elim)
abbrev zA := List Tok → (Int → Bool → Prop) → Prop
def zv (A : zA) (us : List W) (k : W → Prop) : Prop := match us with
 | [.l Cd.tok a0] => A a0 (fun r0 r1 => k (.t [.i .i64 r0, .b r1]))
 | _ => False
theorem Zbl {A A2 : zA} (h : FO ro 41 (zv A)) (hA : ∀ a0 K, A2 a0 K → A a0 K) : FO ro 41 (zv A2) := h.weak (by
 intro us k h
 unfold zv at h ⊢
 split at h
 ·exact hA _ _ h
 ·exact h.elim)
def Jat (A35 : Jl) (A39 : Jq) (A43 : Zn) (A42 : zr) (A37 : Jk) (a0 : List Tok) (K : Int → Bool → Prop) : Prop :=
 (A35 a0 (fun y1 => (((decide ((y1.length : Int) = (0 : Int))) = true → K (0 : Int) true) ∧ ((decide ((y1.length : Int) = (0 : Int))) = false → ((0 ≤ (0 : Int) ∧ (0 : Int) < (y1.length : Int)) ∧ (A39 (Tok.mk ((y1.getD 0 (zI Cd.tok)).kind) ((y1.getD 0 (zI Cd.tok)).text) ((y1.getD 0 (zI Cd.tok)).num) ((y1.getD 0 (zI Cd.tok)).unit) ((y1.getD 0 (zI Cd.tok)).flag)) ([43] : Bt) (fun y2 => ((y2 = true → ((0 ≤ (1 : Int) ∧ (1 : Int) ≤ (y1.length : Int)) ∧ (A43 (y1.drop 1) (fun y3 y4 => K y3 y4)))) ∧ (y2 = false → ((0 ≤ (0 : Int) ∧ (0 : Int) < (y1.length : Int)) ∧ (A39 (Tok.mk ((y1.getD 0 (zI Cd.tok)).kind) ((y1.getD 0 (zI Cd.tok)).text) ((y1.getD 0 (zI Cd.tok)).num) ((y1.getD 0 (zI Cd.tok)).unit) ((y1.getD 0 (zI Cd.tok)).flag)) ([45] : Bt) (fun y5 => ((y5 = true → ((0 ≤ (1 : Int) ∧ (1 : Int) ≤ (y1.length : Int)) ∧ (A43 (y1.drop 1) (fun y6 y7 => (A42 y6 y7 (fun y8 y9 => K y8 y9)))))) ∧ (y5 = false → (A37 y1 (fun y10 y11 => K y10 y11))))))))))))))))
def zau (A35 : Jl) (A39 : Jq) (A43 : Zn) (A42 : zr) (A37 : Jk) : ji sg := tab [(35, con [some Cd.tok] (zE A35)), (39, con [none, none] (Zu A39)), (43, con [some Cd.tok] (Zq A43)), (42, con [none, none] (Ju A42)), (37, con [some Cd.tok] (Zp A37))]
theorem jbZ (A35 : Jl) (A39 : Jq) (A43 : Zn) (A42 : zr) (A37 : Jk) (h35 : FO ro 35 (zE A35)) (h39 : FO ro 39 (Zu A39)) (h43 : FO ro 43 (Zq A43)) (h42 : FO ro 42 (Ju A42)) (h37 : FO ro 37 (Zp A37)) (o0 : Nat → Prop) : Zj sy Tryz.prog GT (ovD ro) o0 ro (zau A35 A39 A43 A42 A37) := (ja (zc h35) (ja (zc h39) (ja (zc h43) (ja (zc h42) (ja (zc h37) Jc))))) o0
theorem ZbZ (A35 : Jl) (A39 : Jq) (A43 : Zn) (A42 : zr) (A37 : Jk) (a0 : List Tok) (k : W → Prop) : fnT sy Tryz.prog GT (zau A35 A39 A43 A42 A37) noL Tryz.f41.ntmps (za Tryz.f41) [none, none] Tryz.f41.results.toList [.l Cd.tok a0] k = Jat A35 A39 A43 A42 A37 a0 (fun r0 r1 => k (.t [.i .i64 r0, .b r1])) := by kernel_rfl
theorem Jce (A35 : Jl) (A39 : Jq) (A43 : Zn) (A42 : zr) (A37 : Jk) (h35 : FO ro 35 (zE A35)) (h39 : FO ro 39 (Zu A39)) (h43 : FO ro 43 (Zq A43)) (h42 : FO ro 42 (Ju A42)) (h37 : FO ro 37 (Zp A37)) : FO ro 41 (zv (Jat A35 A39 A43 A42 A37)) := (zt (rc := [none, none]) (f := 41) (fn := Tryz.f41) (c := za Tryz.f41) (nt := Tryz.f41.ntmps) (res := Tryz.f41.results.toList) (C := zau A35 A39 A43 A42 A37) (L := noL) (fun _ _ => rfl) Tryz.func41 (by kernel_rfl) rfl rfl (jbZ A35 A39 A43 A42 A37 h35 h39 h43 h42 h37) (zi (l := []) (by kernel_rfl) Zd)).weak (by
 intro us k h
 unfold zv at h
 split at h
 ·skip
  rename_i a0
  rw [ZbZ A35 A39 A43 A42 A37 a0 k]
  exact h
 ·exact h.elim)
abbrev jA := Bt → (Int → Bool → Prop) → Prop
def jv (A : jA) (us : List W) (k : W → Prop) : Prop := match us with
 | [.s a0] => A a0 (fun r0 r1 => k (.t [.i .i64 r0, .b r1]))
 | _ => False
theorem Jbl {A A2 : jA} (h : FO ro 44 (jv A)) (hA : ∀ a0 K, A2 a0 K → A a0 K) : FO ro 44 (jv A2) := h.weak (by
 intro us k h
 unfold jv at h ⊢
 split at h
 ·exact hA _ _ h
 ·exact h.elim)
def Zw (A62 : jb) : Nat → Bt → Int → Int → Int → (Int → Prop) → (Int → Bool → Prop) → Prop
 | 0, _, _, _, _, _, _ => False
 | n + 1, x0, x4, x7, x8, Ke, Kr => (((decide (x8 < x7)) = true → ((0 ≤ x8 ∧ x8 < (x0.length : Int)) ∧ (A62 ((x0.getD x8.toNat 0).toNat : Int) (fun y1 => (((!y1) = true → Kr (0 : Int) false) ∧ ((!y1) = false → (I64 ((10 : Int) * x4) ∧ ((0 ≤ x8 ∧ x8 < (x0.length : Int)) ∧ (I64 (IntKind.u8.wrap (((x0.getD x8.toNat 0).toNat : Int) - (48 : Int))) ∧ (I64 (((10 : Int) * x4) + (IntKind.u8.wrap (((x0.getD x8.toNat 0).toNat : Int) - (48 : Int)))) ∧ (I64 (x8 + 1) ∧ Zw A62 n x0 (if (1000000000 : Int) < (((10 : Int) * x4) + (IntKind.u8.wrap (((x0.getD x8.toNat 0).toNat : Int) - (48 : Int)))) then (1000000000 : Int) else (((10 : Int) * x4) + (IntKind.u8.wrap (((x0.getD x8.toNat 0).toNat : Int) - (48 : Int))))) x7 (x8 + 1) Ke Kr))))))))))) ∧ ((decide (x8 < x7)) = false → Ke x4))
def jau (A62 : jb) (a0 : Bt) (K : Int → Bool → Prop) : Prop :=
 (∃ m, Zw A62 m a0 (0 : Int) (a0.length : Int) (0 : Int) (fun y1 => K y1 true) (fun y2 y3 => K y2 y3))
def Jad (A62 : jb) : ji sg := tab [(62, con [none] (zf A62))]
theorem ZaI (A62 : jb) (h62 : FO ro 62 (zf A62)) (o0 : Nat → Prop) : Zj sy Tryz.prog GT (ovD ro) o0 ro (Jad A62) := (ja (zc h62) Jc) o0
abbrev jaf : Type := ((Bt) × Int × Int × Int × Unit)
abbrev Yb_anb_readDigits_3 : Type := Unit
def ls_anb_readDigits_3 : LS sy jaf Yb_anb_readDigits_3 := ⟨[], Zf 0 (jax sy) (Zf 4 (jP sy .i64) (Zf 7 (jP sy .i64) (Zf 8 (jP sy .i64) (jab sy)))), Zab sy, 0, []⟩
def le_anb_readDigits_3 : LS sy (Int × Unit) Unit := ⟨[], Zf 4 (jP sy .i64) (jab sy), Zab sy, 0, []⟩
def lr_anb_readDigits_3 : LS sy (Int × Bool × Unit) Unit := ⟨[], Zf 2 (jP sy .i64) (Zf 3 (jb6 sy) (jab sy)), Zab sy, 0, []⟩
def jX (A62 : jb) (n : Nat) (x : jaf × Yb_anb_readDigits_3) (K : Ex → Z sg → Prop) : Prop := Zw A62 n x.1.1 x.1.2.1 x.1.2.2.1 x.1.2.2.2.1 (fun y0 => K (.exit 0) (le_anb_readDigits_3.put ((y0, ()), ()))) (fun y0 y1 => K .ret (lr_anb_readDigits_3.put ((y0, y1, ()), ())))
def JbZ (A62 : jb) (z : Z sg) (K : Ex → Z sg → Prop) : Prop := ls_anb_readDigits_3.get z (fun x => ∃ n, jX A62 n x K)
def JK (A62 : jb) : Z5 sg := Zc4 [(3, JbZ A62)]
theorem jbK (A62 : jb) (n : Nat) (x : jaf × Yb_anb_readDigits_3) (K : Ex → Z sg → Prop) : zJ (ls_anb_readDigits_3.put x) (fun z => sC sy Tryz.prog GT (Jad A62) (JK A62) Tryz.f44.ntmps (Zb (za Tryz.f44) 0) z (rnd ls_anb_readDigits_3 (czT 0 le_anb_readDigits_3 lr_anb_readDigits_3) (fun x => jX A62 n x K) K)) = jX A62 (n + 1) x K := by kernel_rfl
theorem ZbK (A62 : jb) (z : Z sg) (K : Ex → Z sg → Prop) : (JK A62) (Zb (za Tryz.f44) 0) z K = ls_anb_readDigits_3.get z (fun x => ∃ n, jX A62 n x K) := by kernel_rfl
theorem JbK (A62 : jb) (h62 : FO ro 62 (zf A62)) : ∀ (o0 : Nat → Prop) (B : Bs sg), B.E.length ≤ 0 → ∀ z K, (JK A62) (Zb (za Tryz.f44) 0) z K → Sx.Sem sy Tryz.prog GT (ovD ro) o0 ro Tryz.f44.ntmps B (.loop (Zb (za Tryz.f44) 0)) z K :=
 jS (ZaI A62 h62) (zi (l := []) (by kernel_rfl) Zd) ls_anb_readDigits_3 (by decide) (czT 0 le_anb_readDigits_3 lr_anb_readDigits_3) (fun _ _ hB => Zag 0 le_anb_readDigits_3 lr_anb_readDigits_3 (Nat.le_trans hB (by decide)) (Nat.le_trans hB (by decide))) (fun _ _ h => h) (jbK A62) (ZbK A62)
theorem zcf (A62 : jb) (h62 : FO ro 62 (zf A62)) : Zcx sy Tryz.prog GT (ovD ro) ro (JK A62) 0 Tryz.f44.ntmps (za Tryz.f44) := zi (l := [(Zb (za Tryz.f44) 0)]) (by kernel_rfl) (zS (JbK A62 h62) Zd)
theorem zb0 (A62 : jb) (a0 : Bt) (k : W → Prop) : fnT sy Tryz.prog GT (Jad A62) (JK A62) Tryz.f44.ntmps (za Tryz.f44) [none, none] Tryz.f44.results.toList [.s a0] k = jau A62 a0 (fun r0 r1 => k (.t [.i .i64 r0, .b r1])) := by kernel_rfl
theorem jcf (A62 : jb) (h62 : FO ro 62 (zf A62)) : FO ro 44 (jv (jau A62)) := (zt (rc := [none, none]) (f := 44) (fn := Tryz.f44) (c := za Tryz.f44) (nt := Tryz.f44.ntmps) (res := Tryz.f44.results.toList) (C := Jad A62) (L := (JK A62)) (fun _ _ => rfl) Tryz.func44 (by kernel_rfl) rfl rfl (ZaI A62 h62) (zcf A62 h62)).weak (by
 intro us k h
 unfold jv at h
 split at h
 ·rw [zb0]; exact h
 ·exact h.elim)
abbrev ZA := Bt → List Tok → (Int → Bool → Prop) → Prop
def Zv (A : ZA) (us : List W) (k : W → Prop) : Prop := match us with
 | [.s a0, .l Cd.tok a1] => A a0 a1 (fun r0 r1 => k (.t [.i .i64 r0, .b r1]))
 | _ => False
theorem zbm {A A2 : ZA} (h : FO ro 30 (Zv A)) (hA : ∀ a0 a1 K, A2 a0 a1 K → A a0 a1 K) : FO ro 30 (Zv A2) := h.weak (by
 intro us k h
 unfold Zv at h ⊢
 split at h
 ·exact hA _ _ _ h
 ·exact h.elim)
def Zau (A41 : zA) (A29 : zh) (A43 : Zn) (A42 : zr) (A44 : jA) (a0 : Bt) (a1 : List Tok) (K : Int → Bool → Prop) : Prop :=
 (((a0 == ([] : Bt)) = true → (A41 a1 (fun y1 y2 => K y1 y2))) ∧ ((a0 == ([] : Bt)) = false → (A29 a0 ([45] : Bt) (fun y3 y4 => (((!y4) = true → K (0 : Int) false) ∧ ((!y4) = false → (((y3 == ([] : Bt)) = true → (A43 a1 (fun y5 y6 => (A42 y5 y6 (fun y7 y8 => K y7 y8))))) ∧ ((y3 == ([] : Bt)) = false → (((decide ((0 : Int) < (a1.length : Int))) = true → K (0 : Int) false) ∧ ((decide ((0 : Int) < (a1.length : Int))) = false → (A44 y3 (fun y9 y10 => (A42 y9 y10 (fun y11 y12 => K y11 y12))))))))))))))
def Jau (A41 : zA) (A29 : zh) (A43 : Zn) (A42 : zr) (A44 : jA) : ji sg := tab [(41, con [some Cd.tok] (zv A41)), (29, con [none, none] (zk A29)), (43, con [some Cd.tok] (Zq A43)), (42, con [none, none] (Ju A42)), (44, con [none] (jv A44))]
theorem jb0 (A41 : zA) (A29 : zh) (A43 : Zn) (A42 : zr) (A44 : jA) (h41 : FO ro 41 (zv A41)) (h29 : FO ro 29 (zk A29)) (h43 : FO ro 43 (Zq A43)) (h42 : FO ro 42 (Ju A42)) (h44 : FO ro 44 (jv A44)) (o0 : Nat → Prop) : Zj sy Tryz.prog GT (ovD ro) o0 ro (Jau A41 A29 A43 A42 A44) := (ja (zc h41) (ja (zc h29) (ja (zc h43) (ja (zc h42) (ja (zc h44) Jc))))) o0
theorem Zb0 (A41 : zA) (A29 : zh) (A43 : Zn) (A42 : zr) (A44 : jA) (a0 : Bt) (a1 : List Tok) (k : W → Prop) : fnT sy Tryz.prog GT (Jau A41 A29 A43 A42 A44) noL Tryz.f30.ntmps (za Tryz.f30) [none, none] Tryz.f30.results.toList [.s a0, .l Cd.tok a1] k = Zau A41 A29 A43 A42 A44 a0 a1 (fun r0 r1 => k (.t [.i .i64 r0, .b r1])) := by kernel_rfl
theorem Zcf (A41 : zA) (A29 : zh) (A43 : Zn) (A42 : zr) (A44 : jA) (h41 : FO ro 41 (zv A41)) (h29 : FO ro 29 (zk A29)) (h43 : FO ro 43 (Zq A43)) (h42 : FO ro 42 (Ju A42)) (h44 : FO ro 44 (jv A44)) : FO ro 30 (Zv (Zau A41 A29 A43 A42 A44)) := (zt (rc := [none, none]) (f := 30) (fn := Tryz.f30) (c := za Tryz.f30) (nt := Tryz.f30.ntmps) (res := Tryz.f30.results.toList) (C := Jau A41 A29 A43 A42 A44) (L := noL) (fun _ _ => rfl) Tryz.func30 (by kernel_rfl) rfl rfl (jb0 A41 A29 A43 A42 A44 h41 h29 h43 h42 h44) (zi (l := []) (by kernel_rfl) Zd)).weak (by
 intro us k h
 unfold Zv at h
 split at h
 ·skip
  rename_i a0 a1
  rw [Zb0 A41 A29 A43 A42 A44 a0 a1 k]
  exact h
 ·exact h.elim)
abbrev Zah := List Tok → ((Int × Int) → Bool → Prop) → Prop
def Jaa (A : Zah) (us : List W) (k : W → Prop) : Prop := match us with
 | [.l Cd.tok a0] => A a0 (fun r0 r1 => k (.t [.a [.i .i64 r0.1, .i .i64 r0.2], .b r1]))
 | _ => False
theorem JcX {A A2 : Zah} (h : FO ro 18 (Jaa A)) (hA : ∀ a0 K, A2 a0 K → A a0 K) : FO ro 18 (Jaa A2) := h.weak (by
 intro us k h
 unfold Jaa at h ⊢
 split at h
 ·exact hA _ _ h
 ·exact h.elim)
def Jcf (A26 : zN) (A27 : J7) (A28 : jN) (A29 : zh) (A30 : ZA) (a0 : List Tok) (K : (Int × Int) → Bool → Prop) : Prop :=
 (A26 a0 (fun y1 => (A27 y1 (fun y2 y3 => ((y3 = true → K (y2.1, y2.2) true) ∧ (y3 = false → (A28 y1 (fun y4 y5 y6 y7 => (((!y7) = true → K ((0 : Int), (0 : Int)) false) ∧ ((!y7) = false → (A29 y5 ([110] : Bt) (fun y8 y9 => (((!y9) = true → K ((0 : Int), (0 : Int)) false) ∧ ((!y9) = false → (A30 y8 y6 (fun y10 y11 => (((!y11) = true → K ((0 : Int), (0 : Int)) false) ∧ ((!y11) = false → K (y4, y10) true))))))))))))))))))
def zcg (A26 : zN) (A27 : J7) (A28 : jN) (A29 : zh) (A30 : ZA) : ji sg := tab [(26, con [some Cd.tok] (ZF A26)), (27, con [some Cd.tok] (zX A27)), (28, con [some Cd.tok] (JF A28)), (29, con [none, none] (zk A29)), (30, con [none, some Cd.tok] (Zv A30))]
theorem Zea (A26 : zN) (A27 : J7) (A28 : jN) (A29 : zh) (A30 : ZA) (h26 : FO ro 26 (ZF A26)) (h27 : FO ro 27 (zX A27)) (h28 : FO ro 28 (JF A28)) (h29 : FO ro 29 (zk A29)) (h30 : FO ro 30 (Zv A30)) (o0 : Nat → Prop) : Zj sy Tryz.prog GT (ovD ro) o0 ro (zcg A26 A27 A28 A29 A30) := (ja (zc h26) (ja (zc h27) (ja (zc h28) (ja (zc h29) (ja (zc h30) Jc))))) o0
theorem Jea (A26 : zN) (A27 : J7) (A28 : jN) (A29 : zh) (A30 : ZA) (a0 : List Tok) (k : W → Prop) : fnT sy Tryz.prog GT (zcg A26 A27 A28 A29 A30) noL Tryz.f18.ntmps (za Tryz.f18) [none, none] Tryz.f18.results.toList [.l Cd.tok a0] k = Jcf A26 A27 A28 A29 A30 a0 (fun r0 r1 => k (.t [.a [.i .i64 r0.1, .i .i64 r0.2], .b r1])) := by kernel_rfl
theorem zeB (A26 : zN) (A27 : J7) (A28 : jN) (A29 : zh) (A30 : ZA) (h26 : FO ro 26 (ZF A26)) (h27 : FO ro 27 (zX A27)) (h28 : FO ro 28 (JF A28)) (h29 : FO ro 29 (zk A29)) (h30 : FO ro 30 (Zv A30)) : FO ro 18 (Jaa (Jcf A26 A27 A28 A29 A30)) := (zt (rc := [none, none]) (f := 18) (fn := Tryz.f18) (c := za Tryz.f18) (nt := Tryz.f18.ntmps) (res := Tryz.f18.results.toList) (C := zcg A26 A27 A28 A29 A30) (L := noL) (fun _ _ => rfl) Tryz.func18 (by kernel_rfl) rfl rfl (Zea A26 A27 A28 A29 A30 h26 h27 h28 h29 h30) (zi (l := []) (by kernel_rfl) Zd)).weak (by
 intro us k h
 unfold Jaa at h
 split at h
 ·skip
  rename_i a0
  rw [Jea A26 A27 A28 A29 A30 a0 k]
  exact h
 ·exact h.elim)
abbrev jD := List Tok → ((Int × Int) → Int → Prop) → Prop
def Z3 (A : jD) (us : List W) (k : W → Prop) : Prop := match us with
 | [.l Cd.tok a0] => A a0 (fun r0 r1 => k (.t [.a [.i .i64 r0.1, .i .i64 r0.2], .i .i64 r1]))
 | _ => False
theorem zdG {A A2 : jD} (h : FO ro 10 (Z3 A)) (hA : ∀ a0 K, A2 a0 K → A a0 K) : FO ro 10 (Z3 A2) := h.weak (by
 intro us k h
 unfold Z3 at h ⊢
 split at h
 ·exact hA _ _ h
 ·exact h.elim)
def jdG (A18 : Zah) (a0 : List Tok) (K : (Int × Int) → Int → Prop) : Prop :=
 (A18 a0 (fun y1 y2 => (((!y2) = true → K ((0 : Int), (0 : Int)) (12 : Int)) ∧ ((!y2) = false → K (y1.1, y1.2) (0 : Int)))))
def ZdG (A18 : Zah) : ji sg := tab [(18, con [some Cd.tok] (Jaa A18))]
theorem Je8 (A18 : Zah) (h18 : FO ro 18 (Jaa A18)) (o0 : Nat → Prop) : Zj sy Tryz.prog GT (ovD ro) o0 ro (ZdG A18) := (ja (zc h18) Jc) o0
theorem ze9 (A18 : Zah) (a0 : List Tok) (k : W → Prop) : fnT sy Tryz.prog GT (ZdG A18) noL Tryz.f10.ntmps (za Tryz.f10) [none, none] Tryz.f10.results.toList [.l Cd.tok a0] k = jdG A18 a0 (fun r0 r1 => k (.t [.a [.i .i64 r0.1, .i .i64 r0.2], .i .i64 r1])) := by kernel_rfl
theorem zfF (A18 : Zah) (h18 : FO ro 18 (Jaa A18)) : FO ro 10 (Z3 (jdG A18)) := (zt (rc := [none, none]) (f := 10) (fn := Tryz.f10) (c := za Tryz.f10) (nt := Tryz.f10.ntmps) (res := Tryz.f10.results.toList) (C := ZdG A18) (L := noL) (fun _ _ => rfl) Tryz.func10 (by kernel_rfl) rfl rfl (Je8 A18 h18) (zi (l := []) (by kernel_rfl) Zd)).weak (by
 intro us k h
 unfold Z3 at h
 split at h
 ·skip
  rename_i a0
  rw [ze9 A18 a0 k]
  exact h
 ·exact h.elim)
abbrev Zz := Bt → ((Int × Int) → Int → Prop) → Prop
def jT (A : Zz) (us : List W) (k : W → Prop) : Prop := match us with
 | [.s a0] => A a0 (fun r0 r1 => k (.t [.a [.i .i64 r0.1, .i .i64 r0.2], .i .i64 r1]))
 | _ => False
theorem zcY {A A2 : Zz} (h : FO ro 9 (jT A)) (hA : ∀ a0 K, A2 a0 K → A a0 K) : FO ro 9 (jT A2) := h.weak (by
 intro us k h
 unfold jT at h ⊢
 split at h
 ·exact hA _ _ h
 ·exact h.elim)
def jcg (A17 : Jt) (A10 : jD) (a0 : Bt) (K : (Int × Int) → Int → Prop) : Prop :=
 (A17 a0 (fun y1 y2 => (((decide (y2 ≠ 0)) = true → K ((0 : Int), (0 : Int)) y2) ∧ ((decide (y2 ≠ 0)) = false → (A10 y1 (fun y3 y4 => K (y3.1, y3.2) y4))))))
def Zcg (A17 : Jt) (A10 : jD) : ji sg := tab [(17, con [none] (jM A17)), (10, con [some Cd.tok] (Z3 A10))]
theorem zeb (A17 : Jt) (A10 : jD) (h17 : FO ro 17 (jM A17)) (h10 : FO ro 10 (Z3 A10)) (o0 : Nat → Prop) : Zj sy Tryz.prog GT (ovD ro) o0 ro (Zcg A17 A10) := (ja (zc h17) (ja (zc h10) Jc)) o0
theorem jeb (A17 : Jt) (A10 : jD) (a0 : Bt) (k : W → Prop) : fnT sy Tryz.prog GT (Zcg A17 A10) noL Tryz.f9.ntmps (za Tryz.f9) [none, none] Tryz.f9.results.toList [.s a0] k = jcg A17 A10 a0 (fun r0 r1 => k (.t [.a [.i .i64 r0.1, .i .i64 r0.2], .i .i64 r1])) := by kernel_rfl
theorem jeB (A17 : Jt) (A10 : jD) (h17 : FO ro 17 (jM A17)) (h10 : FO ro 10 (Z3 A10)) : FO ro 9 (jT (jcg A17 A10)) := (zt (rc := [none, none]) (f := 9) (fn := Tryz.f9) (c := za Tryz.f9) (nt := Tryz.f9.ntmps) (res := Tryz.f9.results.toList) (C := Zcg A17 A10) (L := noL) (fun _ _ => rfl) Tryz.func9 (by kernel_rfl) rfl rfl (zeb A17 A10 h17 h10) (zi (l := []) (by kernel_rfl) Zd)).weak (by
 intro us k h
 unfold jT at h
 split at h
 ·rw [jeb]; exact h
 ·exact h.elim)
abbrev Jd := (Int × Int) → (Bool → Prop) → Prop
def Jh (A : Jd) (us : List W) (k : W → Prop) : Prop := match us with
 | [.a [.i .i64 a0_0, .i .i64 a0_1]] => A (a0_0, a0_1) (fun r0 => k (.b r0))
 | _ => False
theorem JaN {A A2 : Jd} (h : FO ro 16 (Jh A)) (hA : ∀ a0 K, A2 a0 K → A a0 K) : FO ro 16 (Jh A2) := h.weak (by
 intro us k h
 unfold Jh at h ⊢
 split at h
 ·exact hA _ _ h
 ·exact h.elim)
def jac (a0 : (Int × Int)) (K : Bool → Prop) : Prop :=
 (((decide ((-1000000000 : Int) ≤ a0.1)) = true → (((decide (a0.1 ≤ 1000000000)) = true → (((decide ((-1000000000 : Int) ≤ a0.2)) = true → K (decide (a0.2 ≤ 1000000000))) ∧ ((decide ((-1000000000 : Int) ≤ a0.2)) = false → K false))) ∧ ((decide (a0.1 ≤ 1000000000)) = false → K false))) ∧ ((decide ((-1000000000 : Int) ≤ a0.1)) = false → K false))
def Zac : ji sg := tab []
theorem za9 (o0 : Nat → Prop) : Zj sy Tryz.prog GT (ovD ro) o0 ro (Zac) := Jc o0
theorem ja9 (a0 : (Int × Int)) (k : W → Prop) : fnT sy Tryz.prog GT (Zac) noL Tryz.f16.ntmps (za Tryz.f16) [none] Tryz.f16.results.toList [.a [.i .i64 a0.1, .i .i64 a0.2]] k = jac a0 (fun r0 => k (.b r0)) := by kernel_rfl
theorem jbm : FO ro 16 (Jh (jac)) := (zt (rc := [none]) (f := 16) (fn := Tryz.f16) (c := za Tryz.f16) (nt := Tryz.f16.ntmps) (res := Tryz.f16.results.toList) (C := Zac) (L := noL) (fun _ _ => rfl) Tryz.func16 (by kernel_rfl) rfl rfl (za9) (zi (l := []) (by kernel_rfl) Zd)).weak (by
 intro us k h
 unfold Jh at h
 split at h
 ·skip
  rename_i a0_0 a0_1
  rw [ja9 (a0_0, a0_1) k]
  exact h
 ·exact h.elim)
abbrev Jal := (Int × Int) → (Int × Int) → (Bool → Prop) → Prop
def jt (A : Jal) (us : List W) (k : W → Prop) : Prop := match us with
 | [.a [.i .i64 a0_0, .i .i64 a0_1], .a [.i .i64 a1_0, .i .i64 a1_1]] => A (a0_0, a0_1) (a1_0, a1_1) (fun r0 => k (.b r0))
 | _ => False
theorem JaC {A A2 : Jal} (h : FO ro 5 (jt A)) (hA : ∀ a0 a1 K, A2 a0 a1 K → A a0 a1 K) : FO ro 5 (jt A2) := h.weak (by
 intro us k h
 unfold jt at h ⊢
 split at h
 ·exact hA _ _ _ h
 ·exact h.elim)
def zb (A16 : Jd) (A15 : je) (A13 : jz) (A9 : Zz) (A17 : Jt) (A10 : jD) : Nat → Bt → Bt → Int → Int → Int → (Bt → Int → Int → Prop) → Prop
 | 0, _, _, _, _, _, _ => False
 | n + 1, x5, x15, x16, c0_0, c0_1, Ke => (((decide (x16 < (x5.length : Int))) = true → (I64 (x16 + 1) ∧ ((0 ≤ x16 ∧ x16 ≤ (x16 + 1) ∧ (x16 + 1) ≤ (x5.length : Int)) ∧ (((((x5.drop x16.toNat).take ((x16 + 1).toNat - x16.toNat)) == ([110] : Bt)) = true → (((decide ((0 : Int) < x16)) = true → (((([78] : Bt) == ([43] : Bt)) = false → (((([78] : Bt) == ([45] : Bt)) = true → (([32] : Bt).length + ([78] : Bt).length ≤ 1099511627776 ∧ ((([32] : Bt) ++ ([78] : Bt)).length + ([32] : Bt).length ≤ 1099511627776 ∧ (x15.length + ((([32] : Bt) ++ ([78] : Bt)) ++ ([32] : Bt)).length ≤ 1099511627776 ∧ (I64 (x16 + 1) ∧ zb A16 A15 A13 A9 A17 A10 n x5 (x15 ++ ((([32] : Bt) ++ ([78] : Bt)) ++ ([32] : Bt))) (x16 + 1) c0_0 c0_1 Ke))))) ∧ ((([78] : Bt) == ([45] : Bt)) = false → (x15.length + ([78] : Bt).length ≤ 1099511627776 ∧ (I64 (x16 + 1) ∧ zb A16 A15 A13 A9 A17 A10 n x5 (x15 ++ ([78] : Bt)) (x16 + 1) c0_0 c0_1 Ke))))) ∧ ((([78] : Bt) == ([43] : Bt)) = true → (([32] : Bt).length + ([78] : Bt).length ≤ 1099511627776 ∧ ((([32] : Bt) ++ ([78] : Bt)).length + ([32] : Bt).length ≤ 1099511627776 ∧ (x15.length + ((([32] : Bt) ++ ([78] : Bt)) ++ ([32] : Bt)).length ≤ 1099511627776 ∧ (I64 (x16 + 1) ∧ zb A16 A15 A13 A9 A17 A10 n x5 (x15 ++ ((([32] : Bt) ++ ([78] : Bt)) ++ ([32] : Bt))) (x16 + 1) c0_0 c0_1 Ke))))))) ∧ ((decide ((0 : Int) < x16)) = false → (x15.length + ([78] : Bt).length ≤ 1099511627776 ∧ (I64 (x16 + 1) ∧ zb A16 A15 A13 A9 A17 A10 n x5 (x15 ++ ([78] : Bt)) (x16 + 1) c0_0 c0_1 Ke))))) ∧ ((((x5.drop x16.toNat).take ((x16 + 1).toNat - x16.toNat)) == ([110] : Bt)) = false → (((decide ((0 : Int) < x16)) = true → (((((x5.drop x16.toNat).take ((x16 + 1).toNat - x16.toNat)) == ([43] : Bt)) = false → (((((x5.drop x16.toNat).take ((x16 + 1).toNat - x16.toNat)) == ([45] : Bt)) = true → (([32] : Bt).length + ((x5.drop x16.toNat).take ((x16 + 1).toNat - x16.toNat)).length ≤ 1099511627776 ∧ ((([32] : Bt) ++ ((x5.drop x16.toNat).take ((x16 + 1).toNat - x16.toNat))).length + ([32] : Bt).length ≤ 1099511627776 ∧ (x15.length + ((([32] : Bt) ++ ((x5.drop x16.toNat).take ((x16 + 1).toNat - x16.toNat))) ++ ([32] : Bt)).length ≤ 1099511627776 ∧ (I64 (x16 + 1) ∧ zb A16 A15 A13 A9 A17 A10 n x5 (x15 ++ ((([32] : Bt) ++ ((x5.drop x16.toNat).take ((x16 + 1).toNat - x16.toNat))) ++ ([32] : Bt))) (x16 + 1) c0_0 c0_1 Ke))))) ∧ ((((x5.drop x16.toNat).take ((x16 + 1).toNat - x16.toNat)) == ([45] : Bt)) = false → (x15.length + ((x5.drop x16.toNat).take ((x16 + 1).toNat - x16.toNat)).length ≤ 1099511627776 ∧ (I64 (x16 + 1) ∧ zb A16 A15 A13 A9 A17 A10 n x5 (x15 ++ ((x5.drop x16.toNat).take ((x16 + 1).toNat - x16.toNat))) (x16 + 1) c0_0 c0_1 Ke))))) ∧ ((((x5.drop x16.toNat).take ((x16 + 1).toNat - x16.toNat)) == ([43] : Bt)) = true → (([32] : Bt).length + ((x5.drop x16.toNat).take ((x16 + 1).toNat - x16.toNat)).length ≤ 1099511627776 ∧ ((([32] : Bt) ++ ((x5.drop x16.toNat).take ((x16 + 1).toNat - x16.toNat))).length + ([32] : Bt).length ≤ 1099511627776 ∧ (x15.length + ((([32] : Bt) ++ ((x5.drop x16.toNat).take ((x16 + 1).toNat - x16.toNat))) ++ ([32] : Bt)).length ≤ 1099511627776 ∧ (I64 (x16 + 1) ∧ zb A16 A15 A13 A9 A17 A10 n x5 (x15 ++ ((([32] : Bt) ++ ((x5.drop x16.toNat).take ((x16 + 1).toNat - x16.toNat))) ++ ([32] : Bt))) (x16 + 1) c0_0 c0_1 Ke))))))) ∧ ((decide ((0 : Int) < x16)) = false → (x15.length + ((x5.drop x16.toNat).take ((x16 + 1).toNat - x16.toNat)).length ≤ 1099511627776 ∧ (I64 (x16 + 1) ∧ zb A16 A15 A13 A9 A17 A10 n x5 (x15 ++ ((x5.drop x16.toNat).take ((x16 + 1).toNat - x16.toNat))) (x16 + 1) c0_0 c0_1 Ke))))))))) ∧ ((decide (x16 < (x5.length : Int))) = false → Ke x15 c0_0 c0_1))
def j0 (A16 : Jd) (A15 : je) (A13 : jz) (A9 : Zz) (A17 : Jt) (A10 : jD) (a0 : (Int × Int)) (a1 : (Int × Int)) (K : Bool → Prop) : Prop :=
 (A16 (a0.1, a0.2) (fun y1 => (((!y1) = false → (A16 (a1.1, a1.2) (fun y2 => (((!y2) = true → (A15 (fun y3 => K y3))) ∧ ((!y2) = false → (A13 (a0.1, a0.2) (fun y4 y5 => (A13 (a1.1, a1.2) (fun y6 y7 => (A9 y4 (fun y8 y9 => (A17 y4 (fun y10 y11 => (A10 y10 (fun y12 y13 => (((decide (y5 ≠ 0)) = false → (((decide (y7 ≠ 0)) = false → (((decide (y9 ≠ 0)) = false → (((decide (y11 ≠ 0)) = false → (((decide (y13 ≠ 0)) = false → (((!(decide (y8.1 = a0.1) && (decide (y8.2 = a0.2) && true))) = false → (((!(decide (y12.1 = a0.1) && (decide (y12.2 = a0.2) && true))) = false → (((decide (a0.1 = a1.1)) = true → (((!((y4 == y6) == (decide (a0.2 = a1.2)))) = true → K false) ∧ ((!((y4 == y6) == (decide (a0.2 = a1.2)))) = false → (∃ m, zb A16 A15 A13 A9 A17 A10 m y4 ([32] : Bt) (0 : Int) a0.1 a0.2 (fun y14 y15 y16 => (y14.length + ([32] : Bt).length ≤ 1099511627776 ∧ (A9 (y14 ++ ([32] : Bt)) (fun y17 y18 => (((decide (y18 = 0)) = true → (((decide (y17.1 = y15) && (decide (y17.2 = y16) && true)) = true → (A15 (fun y19 => K y19))) ∧ ((decide (y17.1 = y15) && (decide (y17.2 = y16) && true)) = false → K false))) ∧ ((decide (y18 = 0)) = false → K false)))))))))) ∧ ((decide (a0.1 = a1.1)) = false → (((!((y4 == y6) == false)) = true → K false) ∧ ((!((y4 == y6) == false)) = false → (∃ m, zb A16 A15 A13 A9 A17 A10 m y4 ([32] : Bt) (0 : Int) a0.1 a0.2 (fun y20 y21 y22 => (y20.length + ([32] : Bt).length ≤ 1099511627776 ∧ (A9 (y20 ++ ([32] : Bt)) (fun y23 y24 => (((decide (y24 = 0)) = true → (((decide (y23.1 = y21) && (decide (y23.2 = y22) && true)) = true → (A15 (fun y25 => K y25))) ∧ ((decide (y23.1 = y21) && (decide (y23.2 = y22) && true)) = false → K false))) ∧ ((decide (y24 = 0)) = false → K false)))))))))))) ∧ ((!(decide (y12.1 = a0.1) && (decide (y12.2 = a0.2) && true))) = true → K false))) ∧ ((!(decide (y8.1 = a0.1) && (decide (y8.2 = a0.2) && true))) = true → K false))) ∧ ((decide (y13 ≠ 0)) = true → K false))) ∧ ((decide (y11 ≠ 0)) = true → K false))) ∧ ((decide (y9 ≠ 0)) = true → K false))) ∧ ((decide (y7 ≠ 0)) = true → K false))) ∧ ((decide (y5 ≠ 0)) = true → K false))))))))))))))))) ∧ ((!y1) = true → (A15 (fun y26 => K y26))))))
def ZI (A16 : Jd) (A15 : je) (A13 : jz) (A9 : Zz) (A17 : Jt) (A10 : jD) : ji sg := tab [(16, con [none] (Jh A16)), (15, con [] (js A15)), (13, con [none] (zT A13)), (9, con [none] (jT A9)), (17, con [none] (jM A17)), (10, con [some Cd.tok] (Z3 A10))]
theorem Jah (A16 : Jd) (A15 : je) (A13 : jz) (A9 : Zz) (A17 : Jt) (A10 : jD) (h16 : FO ro 16 (Jh A16)) (h15 : FO ro 15 (js A15)) (h13 : FO ro 13 (zT A13)) (h9 : FO ro 9 (jT A9)) (h17 : FO ro 17 (jM A17)) (h10 : FO ro 10 (Z3 A10)) (o0 : Nat → Prop) : Zj sy Tryz.prog GT (ovD ro) o0 ro (ZI A16 A15 A13 A9 A17 A10) := (ja (zc h16) (ja (zc h15) (ja (zc h13) (ja (zc h9) (ja (zc h17) (ja (zc h10) Jc)))))) o0
abbrev zK : Type := (Unit × (Bt) × (Bt) × Int × Unit)
abbrev Yb_vitrinelaw07_AnbBack_12 : Type := ((Int × Int × Unit) × Unit)
def ls_vitrinelaw07_AnbBack_12 : LS sy zK Yb_vitrinelaw07_AnbBack_12 := ⟨[], Zf 2 (Ja7 sy (.p 0 0)) (Zf 5 (jax sy) (Zf 15 (jax sy) (Zf 16 (jP sy .i64) (jab sy)))), jag 0 (zs (jP sy .i64) (zs (jP sy .i64) (jc4 sy))) (Zab sy), 1, []⟩
def le_vitrinelaw07_AnbBack_12 : LS sy (Unit × (Bt) × Unit) ((Int × Int × Unit) × Unit) := ⟨[], Zf 2 (Ja7 sy (.p 0 0)) (Zf 15 (jax sy) (jab sy)), jag 0 (zs (jP sy .i64) (zs (jP sy .i64) (jc4 sy))) (Zab sy), 1, []⟩
def jK : LS sy Unit Unit := ⟨[], jab sy, Zab sy, 0, []⟩
def zB (A16 : Jd) (A15 : je) (A13 : jz) (A9 : Zz) (A17 : Jt) (A10 : jD) (n : Nat) (x : zK × Yb_vitrinelaw07_AnbBack_12) (K : Ex → Z sg → Prop) : Prop := zb A16 A15 A13 A9 A17 A10 n x.1.2.1 x.1.2.2.1 x.1.2.2.2.1 x.2.1.1 x.2.1.2.1 (fun y0 y1 y2 => K (.exit 0) (le_vitrinelaw07_AnbBack_12.put (((), y0, ()), ((y1, y2, ()), ()))))
def zaO (A16 : Jd) (A15 : je) (A13 : jz) (A9 : Zz) (A17 : Jt) (A10 : jD) (z : Z sg) (K : Ex → Z sg → Prop) : Prop := ls_vitrinelaw07_AnbBack_12.get z (fun x => ∃ n, zB A16 A15 A13 A9 A17 A10 n x K)
def Zt (A16 : Jd) (A15 : je) (A13 : jz) (A9 : Zz) (A17 : Jt) (A10 : jD) : Z5 sg := Zc4 [(12, zaO A16 A15 A13 A9 A17 A10)]
theorem JaD (A16 : Jd) (A15 : je) (A13 : jz) (A9 : Zz) (A17 : Jt) (A10 : jD) (n : Nat) (x : zK × Yb_vitrinelaw07_AnbBack_12) (K : Ex → Z sg → Prop) : zJ (ls_vitrinelaw07_AnbBack_12.put x) (fun z => sC sy Tryz.prog GT (ZI A16 A15 A13 A9 A17 A10) (Zt A16 A15 A13 A9 A17 A10) Tryz.f5.ntmps (Zb (za Tryz.f5) 0) z (rnd ls_vitrinelaw07_AnbBack_12 (czT 0 le_vitrinelaw07_AnbBack_12 jK) (fun x => zB A16 A15 A13 A9 A17 A10 n x K) K)) = zB A16 A15 A13 A9 A17 A10 (n + 1) x K := by kernel_rfl
theorem zaE (A16 : Jd) (A15 : je) (A13 : jz) (A9 : Zz) (A17 : Jt) (A10 : jD) (z : Z sg) (K : Ex → Z sg → Prop) : (Zt A16 A15 A13 A9 A17 A10) (Zb (za Tryz.f5) 0) z K = ls_vitrinelaw07_AnbBack_12.get z (fun x => ∃ n, zB A16 A15 A13 A9 A17 A10 n x K) := by kernel_rfl
theorem jaE (A16 : Jd) (A15 : je) (A13 : jz) (A9 : Zz) (A17 : Jt) (A10 : jD) (h16 : FO ro 16 (Jh A16)) (h15 : FO ro 15 (js A15)) (h13 : FO ro 13 (zT A13)) (h9 : FO ro 9 (jT A9)) (h17 : FO ro 17 (jM A17)) (h10 : FO ro 10 (Z3 A10)) : ∀ (o0 : Nat → Prop) (B : Bs sg), B.E.length ≤ 0 → ∀ z K, (Zt A16 A15 A13 A9 A17 A10) (Zb (za Tryz.f5) 0) z K → Sx.Sem sy Tryz.prog GT (ovD ro) o0 ro Tryz.f5.ntmps B (.loop (Zb (za Tryz.f5) 0)) z K :=
 jS (Jah A16 A15 A13 A9 A17 A10 h16 h15 h13 h9 h17 h10) (zi (l := []) (by kernel_rfl) Zd) ls_vitrinelaw07_AnbBack_12 (by decide) (czT 0 le_vitrinelaw07_AnbBack_12 jK) (fun _ _ hB => Zag 0 le_vitrinelaw07_AnbBack_12 jK (Nat.le_trans hB (by decide)) (Nat.le_trans hB (by decide))) (fun _ _ h => h) (JaD A16 A15 A13 A9 A17 A10) (zaE A16 A15 A13 A9 A17 A10)
theorem Za5 (A16 : Jd) (A15 : je) (A13 : jz) (A9 : Zz) (A17 : Jt) (A10 : jD) (h16 : FO ro 16 (Jh A16)) (h15 : FO ro 15 (js A15)) (h13 : FO ro 13 (zT A13)) (h9 : FO ro 9 (jT A9)) (h17 : FO ro 17 (jM A17)) (h10 : FO ro 10 (Z3 A10)) : Zcx sy Tryz.prog GT (ovD ro) ro (Zt A16 A15 A13 A9 A17 A10) 0 Tryz.f5.ntmps (za Tryz.f5) := zi (l := [(Zb (za Tryz.f5) 0)]) (by kernel_rfl) (zS (jaE A16 A15 A13 A9 A17 A10 h16 h15 h13 h9 h17 h10) Zd)
theorem zaV (A16 : Jd) (A15 : je) (A13 : jz) (A9 : Zz) (A17 : Jt) (A10 : jD) (a0 : (Int × Int)) (a1 : (Int × Int)) (k : W → Prop) : fnT sy Tryz.prog GT (ZI A16 A15 A13 A9 A17 A10) (Zt A16 A15 A13 A9 A17 A10) Tryz.f5.ntmps (za Tryz.f5) [none] Tryz.f5.results.toList [.a [.i .i64 a0.1, .i .i64 a0.2], .a [.i .i64 a1.1, .i .i64 a1.2]] k = j0 A16 A15 A13 A9 A17 A10 a0 a1 (fun r0 => k (.b r0)) := by kernel_rfl
theorem Ja5 (A16 : Jd) (A15 : je) (A13 : jz) (A9 : Zz) (A17 : Jt) (A10 : jD) (h16 : FO ro 16 (Jh A16)) (h15 : FO ro 15 (js A15)) (h13 : FO ro 13 (zT A13)) (h9 : FO ro 9 (jT A9)) (h17 : FO ro 17 (jM A17)) (h10 : FO ro 10 (Z3 A10)) : FO ro 5 (jt (j0 A16 A15 A13 A9 A17 A10)) := (zt (rc := [none]) (f := 5) (fn := Tryz.f5) (c := za Tryz.f5) (nt := Tryz.f5.ntmps) (res := Tryz.f5.results.toList) (C := ZI A16 A15 A13 A9 A17 A10) (L := (Zt A16 A15 A13 A9 A17 A10)) (fun _ _ => rfl) Tryz.func5 (by kernel_rfl) rfl rfl (Jah A16 A15 A13 A9 A17 A10 h16 h15 h13 h9 h17 h10) (Za5 A16 A15 A13 A9 A17 A10 h16 h15 h13 h9 h17 h10)).weak (by
 intro us k h
 unfold jt at h
 split at h
 ·skip
  rename_i a0_0 a0_1 a1_0 a1_1
  rw [zaV A16 A15 A13 A9 A17 A10 (a0_0, a0_1) (a1_0, a1_1) k]
  exact h
 ·exact h.elim)
end Go.Proofs.YtbpbaicbaehhjaaGreatDoor
