/-
 Small letters, followed. Nothing is claimed here.
-/
import Derived.Test.YtbpbaicbaehhjaaGreatDoorTh
import Derived.Test.YtbpbaicbaehhjaaGreatDoorSa2
namespace Go.Proofs.YtbpbaicbaehhjaaGreatDoor
open Go.Vm Go.Sx Go.RowKit
variable {ro : Nat}
def syc : Sy sg := sy.cv
abbrev JS := Bt → (Bt → Prop) → Prop
def jZ (A : JS) (us : List W) (k : W → Prop) : Prop := match us with
 | [.s a0] => A a0 (fun r0 => k (.s r0))
 | _ => False
theorem zdb {A A2 : JS} (h : FnOK syc Tryz.prog GT (ovD ro) ro 36 (jZ A)) (hA : ∀ a0 K, A2 a0 K → A a0 K) : FnOK syc Tryz.prog GT (ovD ro) ro 36 (jZ A2) := h.weak (by
 intro us k h
 unfold jZ at h ⊢
 split at h
 ·exact hA _ _ h
 ·exact h.elim)
def jah (A60 : jd) : Nat → Int → Int → Bt → (Bt → Prop) → Prop
 | 0, _, _, _, _ => False
 | n + 1, x9, x10, b0, Ke => (((decide (x10 < x9)) = true → ((0 ≤ x10 ∧ x10 < (b0.length : Int)) ∧ (x10.toNat < b0.length ∧ (A60 (UInt8.toNat (b0.getD x10.toNat (zI Cd.u8)) : Int) (fun y1 => ((0 ≤ x10 ∧ x10 < (b0.length : Int)) ∧ (x10.toNat < b0.length ∧ ((0 ≤ y1 ∧ y1 ≤ 255) ∧ (I64 (x10 + 1) ∧ jah A60 n x9 (x10 + 1) (b0.set x10.toNat (UInt8.ofNat y1.toNat)) Ke))))))))) ∧ ((decide (x10 < x9)) = false → Ke b0))
def zcT (A60 : jd) (a0 : Bt) (K : Bt → Prop) : Prop :=
 (a0.length ≤ 1099511627776 ∧ (∃ m, jah A60 m (a0.length : Int) (0 : Int) a0 (fun y1 => K y1)))
def ZbX (A60 : jd) : ji sg := tab [(60, con [none] (Zl A60))]
theorem jcT (A60 : jd) (h60 : FnOK syc Tryz.prog GT (ovD ro) ro 60 (Zl A60)) (o0 : Nat → Prop) : Zj syc Tryz.prog GT (ovD ro) o0 ro (ZbX A60) := (ja (zc h60) Jc) o0
abbrev Jbi : Type := (Unit × Unit × Int × Int × Unit)
abbrev Yb_i_Lower_3 : Type := (List (sg.Den Cd.u8) × Unit)
def ls_i_Lower_3 : LS syc Jbi Yb_i_Lower_3 := ⟨[], Zf 3 (Ja7 syc (.o 0)) (Zf 8 (Ja7 syc (.o 0)) (Zf 9 (jP syc .i64) (Zf 10 (jP syc .i64) (jab syc)))), Zco 0 Cd.u8 (Zab syc), 1, []⟩
def le_i_Lower_3 : LS syc (Unit × Unit) (List (sg.Den Cd.u8) × Unit) := ⟨[], Zf 3 (Ja7 syc (.o 0)) (jab syc), Zco 0 Cd.u8 (Zab syc), 1, []⟩
def zbj : LS syc Unit Unit := ⟨[], jab syc, Zab syc, 0, []⟩
def zaI (A60 : jd) (n : Nat) (x : Jbi × Yb_i_Lower_3) (K : Ex → Z sg → Prop) : Prop := jah A60 n x.1.2.2.1 x.1.2.2.2.1 x.2.1 (fun y0 => K (.exit 0) (le_i_Lower_3.put (((), ()), (y0, ()))))
def Jez (A60 : jd) (z : Z sg) (K : Ex → Z sg → Prop) : Prop := ls_i_Lower_3.get z (fun x => ∃ n, zaI A60 n x K)
def ZaU (A60 : jd) : Z5 sg := Zc4 [(3, Jez A60)]
theorem Jd7 (A60 : jd) (n : Nat) (x : Jbi × Yb_i_Lower_3) (K : Ex → Z sg → Prop) : zJ (ls_i_Lower_3.put x) (fun z => sC syc Tryz.prog GT (ZbX A60) (ZaU A60) Tryz.f36.ntmps (Zb (za Tryz.f36) 0) z (rnd ls_i_Lower_3 (czT 0 le_i_Lower_3 zbj) (fun x => zaI A60 n x K) K)) = zaI A60 (n + 1) x K := by kernel_rfl
theorem zd8 (A60 : jd) (z : Z sg) (K : Ex → Z sg → Prop) : (ZaU A60) (Zb (za Tryz.f36) 0) z K = ls_i_Lower_3.get z (fun x => ∃ n, zaI A60 n x K) := by kernel_rfl
theorem jd8 (A60 : jd) (h60 : FnOK syc Tryz.prog GT (ovD ro) ro 60 (Zl A60)) : ∀ (o0 : Nat → Prop) (B : Bs sg), B.E.length ≤ 0 → ∀ z K, (ZaU A60) (Zb (za Tryz.f36) 0) z K → Sx.Sem syc Tryz.prog GT (ovD ro) o0 ro Tryz.f36.ntmps B (.loop (Zb (za Tryz.f36) 0)) z K :=
 jS (jcT A60 h60) (zi (l := []) (by kernel_rfl) Zd) ls_i_Lower_3 (by decide) (czT 0 le_i_Lower_3 zbj) (fun _ _ hB => Zag 0 le_i_Lower_3 zbj (Nat.le_trans hB (by decide)) (Nat.le_trans hB (by decide))) (fun _ _ h => h) (Jd7 A60) (zd8 A60)
theorem Je7 (A60 : jd) (h60 : FnOK syc Tryz.prog GT (ovD ro) ro 60 (Zl A60)) : Zcx syc Tryz.prog GT (ovD ro) ro (ZaU A60) 0 Tryz.f36.ntmps (za Tryz.f36) := zi (l := [(Zb (za Tryz.f36) 0)]) (by kernel_rfl) (zS (jd8 A60 h60) Zd)
theorem zeA (A60 : jd) (a0 : Bt) (k : W → Prop) : fnT syc Tryz.prog GT (ZbX A60) (ZaU A60) Tryz.f36.ntmps (za Tryz.f36) [none] Tryz.f36.results.toList [.s a0] k = zcT A60 a0 (fun r0 => k (.s r0)) := by kernel_rfl
theorem ze8 (A60 : jd) (h60 : FnOK syc Tryz.prog GT (ovD ro) ro 60 (Zl A60)) : FnOK syc Tryz.prog GT (ovD ro) ro 36 (jZ (zcT A60)) := (zt (rc := [none]) (f := 36) (fn := Tryz.f36) (c := za Tryz.f36) (nt := Tryz.f36.ntmps) (res := Tryz.f36.results.toList) (C := ZbX A60) (L := (ZaU A60)) (fun _ _ => rfl) Tryz.func36 (by kernel_rfl) rfl rfl (jcT A60 h60) (Je7 A60 h60)).weak (by
 intro us k h
 unfold jZ at h
 split at h
 ·rw [zeA]; exact h
 ·exact h.elim)
end Go.Proofs.YtbpbaicbaehhjaaGreatDoor
