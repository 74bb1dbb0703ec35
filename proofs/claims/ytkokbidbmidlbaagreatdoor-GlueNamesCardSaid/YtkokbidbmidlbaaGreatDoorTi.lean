/-
 Shapes of tokens, followed. Nothing is claimed here.
-/
import Derived.Test.YtkokbidbmidlbaaGreatDoorTh
import Derived.Test.YtkokbidbmidlbaaGreatDoorSa2
namespace Go.Proofs.YtkokbidbmidlbaaGreatDoor
open Go.Vm Go.Sx Go.RowKit
variable {ro : Nat}
def syo : Sy sg := sy.grown fun c => match c with | Cd.u8 => true | _ => false
theorem gr {f : FuncId} {pt : List W → (W → Prop) → Prop} (h : FO ro f pt) : FnOK syo Tryz.prog GT (ovD ro) ro f pt := FnOK.grown _ h
theorem ZfW : ∀ args st v st', JfC ro args st = some (v, st') → ovD ro 58 args st = some (v, st') := fun args st v st' h => by
 have e1 : zcC ovL 58 args st = none := rfl
 have e3 : ovV ro 58 args st = JfC ro args st := rfl
 simp only [ovD, ovA, e1, ov1, e3, h]
abbrev T_gslIndexByte := Bt → Int → (Int → Prop) → Prop
def zU (A : T_gslIndexByte) (us : List W) (k : W → Prop) : Prop := match us with
 | [.s a0, .i .u8 a1] => A a0 a1 (fun r0 => k (.i .i64 r0))
 | _ => False
abbrev T_gs_IndexByte := Bt → Int → (Int → Prop) → Prop
def Jm (A : T_gs_IndexByte) (us : List W) (k : W → Prop) : Prop := match us with
 | [.s a0, .i .u8 a1] => A a0 a1 (fun r0 => k (.i .i64 r0))
 | _ => False
theorem Jbo {A A2 : T_gs_IndexByte} (h : FnOK syo Tryz.prog GT (ovD ro) ro 34 (Jm A)) (hA : ∀ a0 a1 K, A2 a0 a1 K → A a0 a1 K) : FnOK syo Tryz.prog GT (ovD ro) ro 34 (Jm A2) := h.weak (by
 intro us k h
 unfold Jm at h ⊢
 split at h
 ·exact hA _ _ _ h
 ·exact h.elim)
def jau (A59 : T_gslIndexByte) (a0 : Bt) (a1 : Int) (K : Int → Prop) : Prop :=
 (A59 a0 a1 (fun y1 => K y1))
def Zau (A59 : T_gslIndexByte) : jg sg := tab [(59, con [none, none] (zU A59))]
theorem Jb2 (A59 : T_gslIndexByte) (h59 : FnOK syo Tryz.prog GT (ovD ro) ro 59 (zU A59)) (o0 : Nat → Prop) : zh syo Tryz.prog GT (ovD ro) o0 ro (Zau A59) := (ja (Zb h59) jc) o0
theorem zb3 (A59 : T_gslIndexByte) (a0 : Bt) (a1 : Int) (k : W → Prop) : fnT syo Tryz.prog GT (Zau A59) noL Tryz.f34.ntmps (za Tryz.f34) [none] Tryz.f34.results.toList [.s a0, .i .u8 a1] k = jau A59 a0 a1 (fun r0 => k (.i .i64 r0)) := by kernel_rfl
theorem zcu (A59 : T_gslIndexByte) (h59 : FnOK syo Tryz.prog GT (ovD ro) ro 59 (zU A59)) : FnOK syo Tryz.prog GT (ovD ro) ro 34 (Jm (jau A59)) := (Zq (rc := [none]) (f := 34) (fn := Tryz.f34) (c := za Tryz.f34) (nt := Tryz.f34.ntmps) (res := Tryz.f34.results.toList) (C := Zau A59) (L := noL) (fun _ _ => rfl) Tryz.func34 (by kernel_rfl) rfl rfl (Jb2 A59 h59) (Jf (l := []) (by kernel_rfl) Jc)).weak (by
 intro us k h
 unfold Jm at h
 split at h
 ·skip
  rename_i a0 a1
  rw [zb3 A59 a0 a1 k]
  exact h
 ·exact h.elim)
abbrev T_glue_used := Tok → (Tok → Prop) → Prop
def jI (A : T_glue_used) (us : List W) (k : W → Prop) : Prop := match us with
 | [.a [.i .u8 a0_0, .s a0_1, .i .i64 a0_2, .s a0_3, .b a0_4]] => A (Tok.mk a0_0 a0_1 a0_2 a0_3 a0_4) (fun r0 => k (.a [.i .u8 r0.kind, .s r0.text, .i .i64 r0.num, .s r0.unit, .b r0.flag]))
 | _ => False
theorem jb3 {A A2 : T_glue_used} (h : FnOK syo Tryz.prog GT (ovD ro) ro 49 (jI A)) (hA : ∀ a0 K, A2 a0 K → A a0 K) : FnOK syo Tryz.prog GT (ovD ro) ro 49 (jI A2) := h.weak (by
 intro us k h
 unfold jI at h ⊢
 split at h
 ·exact hA _ _ h
 ·exact h.elim)
def jaL (a0 : Tok) (K : Tok → Prop) : Prop :=
 (((decide (a0.kind = 1)) = true → K (Tok.mk a0.kind a0.text (0 : Int) ([] : Bt) false)) ∧ ((decide (a0.kind = 1)) = false → (((decide (a0.kind = 2)) = true → K (Tok.mk a0.kind a0.text (0 : Int) ([] : Bt) false)) ∧ ((decide (a0.kind = 2)) = false → (((decide (a0.kind = 3)) = true → K (Tok.mk a0.kind a0.text (0 : Int) ([] : Bt) false)) ∧ ((decide (a0.kind = 3)) = false → (((decide (a0.kind = 5)) = true → K (Tok.mk a0.kind a0.text (0 : Int) ([] : Bt) false)) ∧ ((decide (a0.kind = 5)) = false → (((decide (a0.kind = 7)) = true → K (Tok.mk a0.kind a0.text (0 : Int) ([] : Bt) false)) ∧ ((decide (a0.kind = 7)) = false → (((decide (a0.kind = 9)) = true → K (Tok.mk a0.kind a0.text (0 : Int) ([] : Bt) false)) ∧ ((decide (a0.kind = 9)) = false → (((decide (a0.kind = 4)) = true → K (Tok.mk a0.kind a0.text (0 : Int) ([] : Bt) a0.flag)) ∧ ((decide (a0.kind = 4)) = false → (((decide (a0.kind = 10)) = true → K (Tok.mk a0.kind ([] : Bt) a0.num ([] : Bt) a0.flag)) ∧ ((decide (a0.kind = 10)) = false → (((decide (a0.kind = 11)) = true → K (Tok.mk a0.kind ([] : Bt) a0.num ([] : Bt) false)) ∧ ((decide (a0.kind = 11)) = false → (((decide (a0.kind = 12)) = true → K (Tok.mk a0.kind ([] : Bt) a0.num a0.unit a0.flag)) ∧ ((decide (a0.kind = 12)) = false → K (Tok.mk a0.kind ([] : Bt) (0 : Int) ([] : Bt) false)))))))))))))))))))))
def zbp : jg sg := tab []
theorem Zda (o0 : Nat → Prop) : zh syo Tryz.prog GT (ovD ro) o0 ro (zbp) := jc o0
theorem Jda (a0 : Tok) (k : W → Prop) : fnT syo Tryz.prog GT (zbp) noL Tryz.f49.ntmps (za Tryz.f49) [none] Tryz.f49.results.toList [.a [.i .u8 a0.kind, .s a0.text, .i .i64 a0.num, .s a0.unit, .b a0.flag]] k = jaL a0 (fun r0 => k (.a [.i .u8 r0.kind, .s r0.text, .i .i64 r0.num, .s r0.unit, .b r0.flag])) := by kernel_rfl
theorem jdA : FnOK syo Tryz.prog GT (ovD ro) ro 49 (jI (jaL)) := (Zq (rc := [none]) (f := 49) (fn := Tryz.f49) (c := za Tryz.f49) (nt := Tryz.f49.ntmps) (res := Tryz.f49.results.toList) (C := zbp) (L := noL) (fun _ _ => rfl) Tryz.func49 (by kernel_rfl) rfl rfl (Zda) (Jf (l := []) (by kernel_rfl) Jc)).weak (by
 intro us k h
 unfold jI at h
 split at h
 ·skip
  rename_i a0_0 a0_1 a0_2 a0_3 a0_4
  rw [Jda (Tok.mk a0_0 a0_1 a0_2 a0_3 a0_4) k]
  exact h
 ·exact h.elim)
abbrev T_glue_isName := Bt → (Bool → Prop) → Prop
def Jw (A : T_glue_isName) (us : List W) (k : W → Prop) : Prop := match us with
 | [.s a0] => A a0 (fun r0 => k (.b r0))
 | _ => False
theorem jbC {A A2 : T_glue_isName} (h : FnOK syo Tryz.prog GT (ovD ro) ro 33 (Jw A)) (hA : ∀ a0 K, A2 a0 K → A a0 K) : FnOK syo Tryz.prog GT (ovD ro) ro 33 (Jw A2) := h.weak (by
 intro us k h
 unfold Jw at h ⊢
 split at h
 ·exact hA _ _ h
 ·exact h.elim)
def ZaL (a0 : Bt) (K : Bool → Prop) : Prop :=
 K (!(a0 == ([] : Bt)))
def JaL : jg sg := tab []
theorem jcu (o0 : Nat → Prop) : zh syo Tryz.prog GT (ovD ro) o0 ro (JaL) := jc o0
theorem Zcu (a0 : Bt) (k : W → Prop) : fnT syo Tryz.prog GT (JaL) noL Tryz.f33.ntmps (za Tryz.f33) [none] Tryz.f33.results.toList [.s a0] k = ZaL a0 (fun r0 => k (.b r0)) := by kernel_rfl
theorem jcJ : FnOK syo Tryz.prog GT (ovD ro) ro 33 (Jw (ZaL)) := (Zq (rc := [none]) (f := 33) (fn := Tryz.f33) (c := za Tryz.f33) (nt := Tryz.f33.ntmps) (res := Tryz.f33.results.toList) (C := JaL) (L := noL) (fun _ _ => rfl) Tryz.func33 (by kernel_rfl) rfl rfl (jcu) (Jf (l := []) (by kernel_rfl) Jc)).weak (by
 intro us k h
 unfold Jw at h
 split at h
 ·skip
  rename_i a0
  rw [Zcu a0 k]
  exact h
 ·exact h.elim)
abbrev T_g_sWithDigit := Bt → (Bool → Prop) → Prop
def zn (A : T_g_sWithDigit) (us : List W) (k : W → Prop) : Prop := match us with
 | [.s a0] => A a0 (fun r0 => k (.b r0))
 | _ => False
theorem jbp {A A2 : T_g_sWithDigit} (h : FnOK syo Tryz.prog GT (ovD ro) ro 95 (zn A)) (hA : ∀ a0 K, A2 a0 K → A a0 K) : FnOK syo Tryz.prog GT (ovD ro) ro 95 (zn A2) := h.weak (by
 intro us k h
 unfold zn at h ⊢
 split at h
 ·exact hA _ _ h
 ·exact h.elim)
def Jau (A87 : T_c_IsDigit) (a0 : Bt) (K : Bool → Prop) : Prop :=
 (((!(a0 == ([] : Bt))) = true → ((0 ≤ (0 : Int) ∧ (0 : Int) < (a0.length : Int)) ∧ (A87 ((a0.getD 0 0).toNat : Int) (fun y1 => K y1)))) ∧ ((!(a0 == ([] : Bt))) = false → K false))
def zav (A87 : T_c_IsDigit) : jg sg := tab [(87, con [none] (jd A87))]
theorem Zb3 (A87 : T_c_IsDigit) (h87 : FnOK syo Tryz.prog GT (ovD ro) ro 87 (jd A87)) (o0 : Nat → Prop) : zh syo Tryz.prog GT (ovD ro) o0 ro (zav A87) := (ja (Zb h87) jc) o0
theorem Jb3 (A87 : T_c_IsDigit) (a0 : Bt) (k : W → Prop) : fnT syo Tryz.prog GT (zav A87) noL Tryz.f95.ntmps (za Tryz.f95) [none] Tryz.f95.results.toList [.s a0] k = Jau A87 a0 (fun r0 => k (.b r0)) := by kernel_rfl
theorem Jcu (A87 : T_c_IsDigit) (h87 : FnOK syo Tryz.prog GT (ovD ro) ro 87 (jd A87)) : FnOK syo Tryz.prog GT (ovD ro) ro 95 (zn (Jau A87)) := (Zq (rc := [none]) (f := 95) (fn := Tryz.f95) (c := za Tryz.f95) (nt := Tryz.f95.ntmps) (res := Tryz.f95.results.toList) (C := zav A87) (L := noL) (fun _ _ => rfl) Tryz.func95 (by kernel_rfl) rfl rfl (Zb3 A87 h87) (Jf (l := []) (by kernel_rfl) Jc)).weak (by
 intro us k h
 unfold zn at h
 split at h
 ·skip
  rename_i a0
  rw [Jb3 A87 a0 k]
  exact h
 ·exact h.elim)
abbrev T_g_sWithMinusDigit := Bt → (Bool → Prop) → Prop
def zk (A : T_g_sWithMinusDigit) (us : List W) (k : W → Prop) : Prop := match us with
 | [.s a0] => A a0 (fun r0 => k (.b r0))
 | _ => False
theorem JaB {A A2 : T_g_sWithMinusDigit} (h : FnOK syo Tryz.prog GT (ovD ro) ro 96 (zk A)) (hA : ∀ a0 K, A2 a0 K → A a0 K) : FnOK syo Tryz.prog GT (ovD ro) ro 96 (zk A2) := h.weak (by
 intro us k h
 unfold zk at h ⊢
 split at h
 ·exact hA _ _ h
 ·exact h.elim)
def ZI (A115 : T_gs_HPx) (A95 : T_g_sWithDigit) (a0 : Bt) (K : Bool → Prop) : Prop :=
 (A115 a0 ([45] : Bt) (fun y1 => ((y1 = true → ((0 ≤ (1 : Int) ∧ (1 : Int) ≤ (a0.length : Int)) ∧ (A95 (a0.drop 1) (fun y2 => K y2)))) ∧ (y1 = false → K false))))
def JV (A115 : T_gs_HPx) (A95 : T_g_sWithDigit) : jg sg := tab [(115, con [none, none] (ZB A115)), (95, con [none] (zn A95))]
theorem Ja0 (A115 : T_gs_HPx) (A95 : T_g_sWithDigit) (h115 : FnOK syo Tryz.prog GT (ovD ro) ro 115 (ZB A115)) (h95 : FnOK syo Tryz.prog GT (ovD ro) ro 95 (zn A95)) (o0 : Nat → Prop) : zh syo Tryz.prog GT (ovD ro) o0 ro (JV A115 A95) := (ja (Zb h115) (ja (Zb h95) jc)) o0
theorem za1 (A115 : T_gs_HPx) (A95 : T_g_sWithDigit) (a0 : Bt) (k : W → Prop) : fnT syo Tryz.prog GT (JV A115 A95) noL Tryz.f96.ntmps (za Tryz.f96) [none] Tryz.f96.results.toList [.s a0] k = ZI A115 A95 a0 (fun r0 => k (.b r0)) := by kernel_rfl
theorem zbd (A115 : T_gs_HPx) (A95 : T_g_sWithDigit) (h115 : FnOK syo Tryz.prog GT (ovD ro) ro 115 (ZB A115)) (h95 : FnOK syo Tryz.prog GT (ovD ro) ro 95 (zn A95)) : FnOK syo Tryz.prog GT (ovD ro) ro 96 (zk (ZI A115 A95)) := (Zq (rc := [none]) (f := 96) (fn := Tryz.f96) (c := za Tryz.f96) (nt := Tryz.f96.ntmps) (res := Tryz.f96.results.toList) (C := JV A115 A95) (L := noL) (fun _ _ => rfl) Tryz.func96 (by kernel_rfl) rfl rfl (Ja0 A115 A95 h115 h95) (Jf (l := []) (by kernel_rfl) Jc)).weak (by
 intro us k h
 unfold zk at h
 split at h
 ·skip
  rename_i a0
  rw [za1 A115 A95 a0 k]
  exact h
 ·exact h.elim)
abbrev T_glue_obstacle := Bt → (Int → Prop) → Prop
def jk (A : T_glue_obstacle) (us : List W) (k : W → Prop) : Prop := match us with
 | [.s a0] => A a0 (fun r0 => k (.i .i64 r0))
 | _ => False
theorem jbd {A A2 : T_glue_obstacle} (h : FnOK syo Tryz.prog GT (ovD ro) ro 50 (jk A)) (hA : ∀ a0 K, A2 a0 K → A a0 K) : FnOK syo Tryz.prog GT (ovD ro) ro 50 (jk A2) := h.weak (by
 intro us k h
 unfold jk at h ⊢
 split at h
 ·exact hA _ _ h
 ·exact h.elim)
def zal (A95 : T_g_sWithDigit) (A96 : T_g_sWithMinusDigit) (a0 : Bt) (K : Int → Prop) : Prop :=
 (((a0 == ([45] : Bt)) = false → (A95 a0 (fun y1 => ((y1 = true → K (0 : Int)) ∧ (y1 = false → (A96 a0 (fun y2 => ((y2 = true → K (1 : Int)) ∧ (y2 = false → K (-1 : Int)))))))))) ∧ ((a0 == ([45] : Bt)) = true → K (0 : Int)))
def jal (A95 : T_g_sWithDigit) (A96 : T_g_sWithMinusDigit) : jg sg := tab [(95, con [none] (zn A95)), (96, con [none] (zk A96))]
theorem ZbN (A95 : T_g_sWithDigit) (A96 : T_g_sWithMinusDigit) (h95 : FnOK syo Tryz.prog GT (ovD ro) ro 95 (zn A95)) (h96 : FnOK syo Tryz.prog GT (ovD ro) ro 96 (zk A96)) (o0 : Nat → Prop) : zh syo Tryz.prog GT (ovD ro) o0 ro (jal A95 A96) := (ja (Zb h95) (ja (Zb h96) jc)) o0
theorem JbN (A95 : T_g_sWithDigit) (A96 : T_g_sWithMinusDigit) (a0 : Bt) (k : W → Prop) : fnT syo Tryz.prog GT (jal A95 A96) noL Tryz.f50.ntmps (za Tryz.f50) [none] Tryz.f50.results.toList [.s a0] k = zal A95 A96 a0 (fun r0 => k (.i .i64 r0)) := by kernel_rfl
theorem zb4 (A95 : T_g_sWithDigit) (A96 : T_g_sWithMinusDigit) (h95 : FnOK syo Tryz.prog GT (ovD ro) ro 95 (zn A95)) (h96 : FnOK syo Tryz.prog GT (ovD ro) ro 96 (zk A96)) : FnOK syo Tryz.prog GT (ovD ro) ro 50 (jk (zal A95 A96)) := (Zq (rc := [none]) (f := 50) (fn := Tryz.f50) (c := za Tryz.f50) (nt := Tryz.f50.ntmps) (res := Tryz.f50.results.toList) (C := jal A95 A96) (L := noL) (fun _ _ => rfl) Tryz.func50 (by kernel_rfl) rfl rfl (ZbN A95 A96 h95 h96) (Jf (l := []) (by kernel_rfl) Jc)).weak (by
 intro us k h
 unfold jk at h
 split at h
 ·skip
  rename_i a0
  rw [JbN A95 A96 a0 k]
  exact h
 ·exact h.elim)
abbrev T_glue_isDelim := Bt → (Bool → Prop) → Prop
def ju (A : T_glue_isDelim) (us : List W) (k : W → Prop) : Prop := match us with
 | [.s a0] => A a0 (fun r0 => k (.b r0))
 | _ => False
theorem Zbp {A A2 : T_glue_isDelim} (h : FnOK syo Tryz.prog GT (ovD ro) ro 51 (ju A)) (hA : ∀ a0 K, A2 a0 K → A a0 K) : FnOK syo Tryz.prog GT (ovD ro) ro 51 (ju A2) := h.weak (by
 intro us k h
 unfold ju at h ⊢
 split at h
 ·exact hA _ _ h
 ·exact h.elim)
def Jab (A97 : T_c_IsSpace) (A98 : T_c_IsQuote) (A82 : T_c_StartsName) (A87 : T_c_IsDigit) (A34 : T_gs_IndexByte) (a0 : Bt) (K : Bool → Prop) : Prop :=
 (((decide ((a0.length : Int) ≠ (1 : Int))) = true → K false) ∧ ((decide ((a0.length : Int) ≠ (1 : Int))) = false → ((0 ≤ (0 : Int) ∧ (0 : Int) < (a0.length : Int)) ∧ (A97 ((a0.getD 0 0).toNat : Int) (fun y1 => (((!y1) = true → (A98 ((a0.getD 0 0).toNat : Int) (fun y2 => (((!y2) = true → (A82 ((a0.getD 0 0).toNat : Int) (fun y3 => (((!y3) = true → (A87 ((a0.getD 0 0).toNat : Int) (fun y4 => (((!y4) = true → (A34 ([12, 13, 58, 59, 44, 91, 93, 40, 41, 123, 125] : Bt) ((a0.getD 0 0).toNat : Int) (fun y5 => K (decide (y5 < 0))))) ∧ ((!y4) = false → K false))))) ∧ ((!y3) = false → K false))))) ∧ ((!y2) = false → K false))))) ∧ ((!y1) = false → K false)))))))
def jav (A97 : T_c_IsSpace) (A98 : T_c_IsQuote) (A82 : T_c_StartsName) (A87 : T_c_IsDigit) (A34 : T_gs_IndexByte) : jg sg := tab [(97, con [none] (zc A97)), (98, con [none] (jp A98)), (82, con [none] (Zi A82)), (87, con [none] (jd A87)), (34, con [none, none] (Jm A34))]
theorem jb4 (A97 : T_c_IsSpace) (A98 : T_c_IsQuote) (A82 : T_c_StartsName) (A87 : T_c_IsDigit) (A34 : T_gs_IndexByte) (h97 : FnOK syo Tryz.prog GT (ovD ro) ro 97 (zc A97)) (h98 : FnOK syo Tryz.prog GT (ovD ro) ro 98 (jp A98)) (h82 : FnOK syo Tryz.prog GT (ovD ro) ro 82 (Zi A82)) (h87 : FnOK syo Tryz.prog GT (ovD ro) ro 87 (jd A87)) (h34 : FnOK syo Tryz.prog GT (ovD ro) ro 34 (Jm A34)) (o0 : Nat → Prop) : zh syo Tryz.prog GT (ovD ro) o0 ro (jav A97 A98 A82 A87 A34) := (ja (Zb h97) (ja (Zb h98) (ja (Zb h82) (ja (Zb h87) (ja (Zb h34) jc))))) o0
theorem Zb4 (A97 : T_c_IsSpace) (A98 : T_c_IsQuote) (A82 : T_c_StartsName) (A87 : T_c_IsDigit) (A34 : T_gs_IndexByte) (a0 : Bt) (k : W → Prop) : fnT syo Tryz.prog GT (jav A97 A98 A82 A87 A34) noL Tryz.f51.ntmps (za Tryz.f51) [none] Tryz.f51.results.toList [.s a0] k = Jab A97 A98 A82 A87 A34 a0 (fun r0 => k (.b r0)) := by kernel_rfl
theorem zcv (A97 : T_c_IsSpace) (A98 : T_c_IsQuote) (A82 : T_c_StartsName) (A87 : T_c_IsDigit) (A34 : T_gs_IndexByte) (h97 : FnOK syo Tryz.prog GT (ovD ro) ro 97 (zc A97)) (h98 : FnOK syo Tryz.prog GT (ovD ro) ro 98 (jp A98)) (h82 : FnOK syo Tryz.prog GT (ovD ro) ro 82 (Zi A82)) (h87 : FnOK syo Tryz.prog GT (ovD ro) ro 87 (jd A87)) (h34 : FnOK syo Tryz.prog GT (ovD ro) ro 34 (Jm A34)) : FnOK syo Tryz.prog GT (ovD ro) ro 51 (ju (Jab A97 A98 A82 A87 A34)) := (Zq (rc := [none]) (f := 51) (fn := Tryz.f51) (c := za Tryz.f51) (nt := Tryz.f51.ntmps) (res := Tryz.f51.results.toList) (C := jav A97 A98 A82 A87 A34) (L := noL) (fun _ _ => rfl) Tryz.func51 (by kernel_rfl) rfl rfl (jb4 A97 A98 A82 A87 A34 h97 h98 h82 h87 h34) (Jf (l := []) (by kernel_rfl) Jc)).weak (by
 intro us k h
 unfold ju at h
 split at h
 ·skip
  rename_i a0
  rw [Zb4 A97 A98 A82 A87 A34 a0 k]
  exact h
 ·exact h.elim)
abbrev T_glue_isWhole := Int → (Bool → Prop) → Prop
def jn (A : T_glue_isWhole) (us : List W) (k : W → Prop) : Prop := match us with
 | [.i .i64 a0] => A a0 (fun r0 => k (.b r0))
 | _ => False
theorem Jbp {A A2 : T_glue_isWhole} (h : FnOK syo Tryz.prog GT (ovD ro) ro 67 (jn A)) (hA : ∀ a0 K, A2 a0 K → A a0 K) : FnOK syo Tryz.prog GT (ovD ro) ro 67 (jn A2) := h.weak (by
 intro us k h
 unfold jn at h ⊢
 split at h
 ·exact hA _ _ h
 ·exact h.elim)
def Zav (a0 : Int) (K : Bool → Prop) : Prop :=
 ((1000 : Int) ≠ 0 ∧ K (decide ((a0.tmod (1000 : Int)) = 0)))
def Jav : jg sg := tab []
theorem Jb4 (o0 : Nat → Prop) : zh syo Tryz.prog GT (ovD ro) o0 ro (Jav) := jc o0
theorem zb5 (a0 : Int) (k : W → Prop) : fnT syo Tryz.prog GT (Jav) noL Tryz.f67.ntmps (za Tryz.f67) [none] Tryz.f67.results.toList [.i .i64 a0] k = Zav a0 (fun r0 => k (.b r0)) := by kernel_rfl
theorem jcv : FnOK syo Tryz.prog GT (ovD ro) ro 67 (jn (Zav)) := (Zq (rc := [none]) (f := 67) (fn := Tryz.f67) (c := za Tryz.f67) (nt := Tryz.f67.ntmps) (res := Tryz.f67.results.toList) (C := Jav) (L := noL) (fun _ _ => rfl) Tryz.func67 (by kernel_rfl) rfl rfl (Jb4) (Jf (l := []) (by kernel_rfl) Jc)).weak (by
 intro us k h
 unfold jn at h
 split at h
 ·skip
  rename_i a0
  rw [zb5 a0 k]
  exact h
 ·exact h.elim)
abbrev T_glue_isNumber := Tok → (Bool → Prop) → Prop
def zs (A : T_glue_isNumber) (us : List W) (k : W → Prop) : Prop := match us with
 | [.a [.i .u8 a0_0, .s a0_1, .i .i64 a0_2, .s a0_3, .b a0_4]] => A (Tok.mk a0_0 a0_1 a0_2 a0_3 a0_4) (fun r0 => k (.b r0))
 | _ => False
theorem Zbd {A A2 : T_glue_isNumber} (h : FnOK syo Tryz.prog GT (ovD ro) ro 52 (zs A)) (hA : ∀ a0 K, A2 a0 K → A a0 K) : FnOK syo Tryz.prog GT (ovD ro) ro 52 (zs A2) := h.weak (by
 intro us k h
 unfold zs at h ⊢
 split at h
 ·exact hA _ _ h
 ·exact h.elim)
def Z3 (A67 : T_glue_isWhole) (a0 : Tok) (K : Bool → Prop) : Prop :=
 (((decide (a0.num < (-1000000000000 : Int))) = false → (((decide ((1000000000000 : Int) < a0.num)) = true → K false) ∧ ((decide ((1000000000000 : Int) < a0.num)) = false → (((!a0.flag) = false → (A67 a0.num (fun y1 => K y1))) ∧ ((!a0.flag) = true → K true))))) ∧ ((decide (a0.num < (-1000000000000 : Int))) = true → K false))
def Zal (A67 : T_glue_isWhole) : jg sg := tab [(67, con [none] (jn A67))]
theorem zbO (A67 : T_glue_isWhole) (h67 : FnOK syo Tryz.prog GT (ovD ro) ro 67 (jn A67)) (o0 : Nat → Prop) : zh syo Tryz.prog GT (ovD ro) o0 ro (Zal A67) := (ja (Zb h67) jc) o0
theorem jbO (A67 : T_glue_isWhole) (a0 : Tok) (k : W → Prop) : fnT syo Tryz.prog GT (Zal A67) noL Tryz.f52.ntmps (za Tryz.f52) [none] Tryz.f52.results.toList [.a [.i .u8 a0.kind, .s a0.text, .i .i64 a0.num, .s a0.unit, .b a0.flag]] k = Z3 A67 a0 (fun r0 => k (.b r0)) := by kernel_rfl
theorem jb5 (A67 : T_glue_isWhole) (h67 : FnOK syo Tryz.prog GT (ovD ro) ro 67 (jn A67)) : FnOK syo Tryz.prog GT (ovD ro) ro 52 (zs (Z3 A67)) := (Zq (rc := [none]) (f := 52) (fn := Tryz.f52) (c := za Tryz.f52) (nt := Tryz.f52.ntmps) (res := Tryz.f52.results.toList) (C := Zal A67) (L := noL) (fun _ _ => rfl) Tryz.func52 (by kernel_rfl) rfl rfl (zbO A67 h67) (Jf (l := []) (by kernel_rfl) Jc)).weak (by
 intro us k h
 unfold zs at h
 split at h
 ·skip
  rename_i a0_0 a0_1 a0_2 a0_3 a0_4
  rw [jbO A67 (Tok.mk a0_0 a0_1 a0_2 a0_3 a0_4) k]
  exact h
 ·exact h.elim)
abbrev T_glue_canBeWritten := Tok → (Bool → Prop) → Prop
def Jg (A : T_glue_canBeWritten) (us : List W) (k : W → Prop) : Prop := match us with
 | [.a [.i .u8 a0_0, .s a0_1, .i .i64 a0_2, .s a0_3, .b a0_4]] => A (Tok.mk a0_0 a0_1 a0_2 a0_3 a0_4) (fun r0 => k (.b r0))
 | _ => False
theorem zaC {A A2 : T_glue_canBeWritten} (h : FnOK syo Tryz.prog GT (ovD ro) ro 29 (Jg A)) (hA : ∀ a0 K, A2 a0 K → A a0 K) : FnOK syo Tryz.prog GT (ovD ro) ro 29 (Jg A2) := h.weak (by
 intro us k h
 unfold Jg at h ⊢
 split at h
 ·exact hA _ _ h
 ·exact h.elim)
def JI (A49 : T_glue_used) (A34 : T_gs_IndexByte) (A33 : T_glue_isName) (A50 : T_glue_obstacle) (A51 : T_glue_isDelim) (A52 : T_glue_isNumber) (a0 : Tok) (K : Bool → Prop) : Prop :=
 (A49 (Tok.mk a0.kind a0.text a0.num a0.unit a0.flag) (fun y1 => (((!(decide (a0.kind = y1.kind) && ((a0.text == y1.text) && (decide (a0.num = y1.num) && ((a0.unit == y1.unit) && ((a0.flag == y1.flag) && true)))))) = false → (A34 a0.text (0 : Int) (fun y2 => (((decide ((0 : Int) ≤ y2)) = false → (A34 a0.unit (0 : Int) (fun y3 => (((decide ((0 : Int) ≤ y3)) = true → K false) ∧ ((decide ((0 : Int) ≤ y3)) = false → (((decide (a0.kind = 1)) = true → (A33 a0.text (fun y4 => K y4))) ∧ ((decide (a0.kind = 1)) = false → (((decide (a0.kind = 2)) = true → (A33 a0.text (fun y5 => K y5))) ∧ ((decide (a0.kind = 2)) = false → (((decide (a0.kind = 3)) = true → (A33 a0.text (fun y6 => K y6))) ∧ ((decide (a0.kind = 3)) = false → (((decide (a0.kind = 4)) = true → (A33 a0.text (fun y7 => ((y7 = true → ((a0.flag = false → (A50 a0.text (fun y8 => K (decide (y8 ≠ (-1 : Int)))))) ∧ (a0.flag = true → K true))) ∧ (y7 = false → K false))))) ∧ ((decide (a0.kind = 4)) = false → (((decide (a0.kind = 9)) = true → (A51 a0.text (fun y9 => K y9))) ∧ ((decide (a0.kind = 9)) = false → (((decide (a0.kind = 10)) = true → (A52 (Tok.mk a0.kind a0.text a0.num a0.unit a0.flag) (fun y10 => K y10))) ∧ ((decide (a0.kind = 10)) = false → (((decide (a0.kind = 11)) = true → (A52 (Tok.mk a0.kind a0.text a0.num a0.unit a0.flag) (fun y11 => K y11))) ∧ ((decide (a0.kind = 11)) = false → (((decide (a0.kind = 12)) = true → (A52 (Tok.mk a0.kind a0.text a0.num a0.unit a0.flag) (fun y12 => ((y12 = true → (A33 a0.unit (fun y13 => K y13))) ∧ (y12 = false → K false))))) ∧ ((decide (a0.kind = 12)) = false → (((decide (a0.kind = 6)) = true → K false) ∧ ((decide (a0.kind = 6)) = false → (((decide (a0.kind = 8)) = true → K false) ∧ ((decide (a0.kind = 8)) = false → (((decide ((1 : Int) ≤ a0.kind)) = true → K (decide (a0.kind ≤ 24))) ∧ ((decide ((1 : Int) ≤ a0.kind)) = false → K false))))))))))))))))))))))))))) ∧ ((decide ((0 : Int) ≤ y2)) = true → K false))))) ∧ ((!(decide (a0.kind = y1.kind) && ((a0.text == y1.text) && (decide (a0.num = y1.num) && ((a0.unit == y1.unit) && ((a0.flag == y1.flag) && true)))))) = true → K false))))
def zW (A49 : T_glue_used) (A34 : T_gs_IndexByte) (A33 : T_glue_isName) (A50 : T_glue_obstacle) (A51 : T_glue_isDelim) (A52 : T_glue_isNumber) : jg sg := tab [(49, con [none] (jI A49)), (34, con [none, none] (Jm A34)), (33, con [none] (Jw A33)), (50, con [none] (jk A50)), (51, con [none] (ju A51)), (52, con [none] (zs A52))]
theorem ja1 (A49 : T_glue_used) (A34 : T_gs_IndexByte) (A33 : T_glue_isName) (A50 : T_glue_obstacle) (A51 : T_glue_isDelim) (A52 : T_glue_isNumber) (h49 : FnOK syo Tryz.prog GT (ovD ro) ro 49 (jI A49)) (h34 : FnOK syo Tryz.prog GT (ovD ro) ro 34 (Jm A34)) (h33 : FnOK syo Tryz.prog GT (ovD ro) ro 33 (Jw A33)) (h50 : FnOK syo Tryz.prog GT (ovD ro) ro 50 (jk A50)) (h51 : FnOK syo Tryz.prog GT (ovD ro) ro 51 (ju A51)) (h52 : FnOK syo Tryz.prog GT (ovD ro) ro 52 (zs A52)) (o0 : Nat → Prop) : zh syo Tryz.prog GT (ovD ro) o0 ro (zW A49 A34 A33 A50 A51 A52) := (ja (Zb h49) (ja (Zb h34) (ja (Zb h33) (ja (Zb h50) (ja (Zb h51) (ja (Zb h52) jc)))))) o0
theorem Za1 (A49 : T_glue_used) (A34 : T_gs_IndexByte) (A33 : T_glue_isName) (A50 : T_glue_obstacle) (A51 : T_glue_isDelim) (A52 : T_glue_isNumber) (a0 : Tok) (k : W → Prop) : fnT syo Tryz.prog GT (zW A49 A34 A33 A50 A51 A52) noL Tryz.f29.ntmps (za Tryz.f29) [none] Tryz.f29.results.toList [.a [.i .u8 a0.kind, .s a0.text, .i .i64 a0.num, .s a0.unit, .b a0.flag]] k = JI A49 A34 A33 A50 A51 A52 a0 (fun r0 => k (.b r0)) := by kernel_rfl
theorem Jbd (A49 : T_glue_used) (A34 : T_gs_IndexByte) (A33 : T_glue_isName) (A50 : T_glue_obstacle) (A51 : T_glue_isDelim) (A52 : T_glue_isNumber) (h49 : FnOK syo Tryz.prog GT (ovD ro) ro 49 (jI A49)) (h34 : FnOK syo Tryz.prog GT (ovD ro) ro 34 (Jm A34)) (h33 : FnOK syo Tryz.prog GT (ovD ro) ro 33 (Jw A33)) (h50 : FnOK syo Tryz.prog GT (ovD ro) ro 50 (jk A50)) (h51 : FnOK syo Tryz.prog GT (ovD ro) ro 51 (ju A51)) (h52 : FnOK syo Tryz.prog GT (ovD ro) ro 52 (zs A52)) : FnOK syo Tryz.prog GT (ovD ro) ro 29 (Jg (JI A49 A34 A33 A50 A51 A52)) := (Zq (rc := [none]) (f := 29) (fn := Tryz.f29) (c := za Tryz.f29) (nt := Tryz.f29.ntmps) (res := Tryz.f29.results.toList) (C := zW A49 A34 A33 A50 A51 A52) (L := noL) (fun _ _ => rfl) Tryz.func29 (by kernel_rfl) rfl rfl (ja1 A49 A34 A33 A50 A51 A52 h49 h34 h33 h50 h51 h52) (Jf (l := []) (by kernel_rfl) Jc)).weak (by
 intro us k h
 unfold Jg at h
 split at h
 ·skip
  rename_i a0_0 a0_1 a0_2 a0_3 a0_4
  rw [Za1 A49 A34 A33 A50 A51 A52 (Tok.mk a0_0 a0_1 a0_2 a0_3 a0_4) k]
  exact h
 ·exact h.elim)
abbrev T_glue_isBackslash := Tok → (Bool → Prop) → Prop
def zd (A : T_glue_isBackslash) (us : List W) (k : W → Prop) : Prop := match us with
 | [.a [.i .u8 a0_0, .s a0_1, .i .i64 a0_2, .s a0_3, .b a0_4]] => A (Tok.mk a0_0 a0_1 a0_2 a0_3 a0_4) (fun r0 => k (.b r0))
 | _ => False
theorem zaM {A A2 : T_glue_isBackslash} (h : FnOK syo Tryz.prog GT (ovD ro) ro 53 (zd A)) (hA : ∀ a0 K, A2 a0 K → A a0 K) : FnOK syo Tryz.prog GT (ovD ro) ro 53 (zd A2) := h.weak (by
 intro us k h
 unfold zd at h ⊢
 split at h
 ·exact hA _ _ h
 ·exact h.elim)
def J3 (a0 : Tok) (K : Bool → Prop) : Prop :=
 (((decide (a0.kind = 9)) = true → K (a0.text == ([92] : Bt))) ∧ ((decide (a0.kind = 9)) = false → K false))
def Z4 : jg sg := tab []
theorem zbe (o0 : Nat → Prop) : zh syo Tryz.prog GT (ovD ro) o0 ro (Z4) := jc o0
theorem jbe (a0 : Tok) (k : W → Prop) : fnT syo Tryz.prog GT (Z4) noL Tryz.f53.ntmps (za Tryz.f53) [none] Tryz.f53.results.toList [.a [.i .u8 a0.kind, .s a0.text, .i .i64 a0.num, .s a0.unit, .b a0.flag]] k = J3 a0 (fun r0 => k (.b r0)) := by kernel_rfl
theorem zbq : FnOK syo Tryz.prog GT (ovD ro) ro 53 (zd (J3)) := (Zq (rc := [none]) (f := 53) (fn := Tryz.f53) (c := za Tryz.f53) (nt := Tryz.f53.ntmps) (res := Tryz.f53.results.toList) (C := Z4) (L := noL) (fun _ _ => rfl) Tryz.func53 (by kernel_rfl) rfl rfl (zbe) (Jf (l := []) (by kernel_rfl) Jc)).weak (by
 intro us k h
 unfold zd at h
 split at h
 ·skip
  rename_i a0_0 a0_1 a0_2 a0_3 a0_4
  rw [jbe (Tok.mk a0_0 a0_1 a0_2 a0_3 a0_4) k]
  exact h
 ·exact h.elim)
abbrev T_glue_isURLFunction := Tok → (Bool → Prop) → Prop
def Jd (A : T_glue_isURLFunction) (us : List W) (k : W → Prop) : Prop := match us with
 | [.a [.i .u8 a0_0, .s a0_1, .i .i64 a0_2, .s a0_3, .b a0_4]] => A (Tok.mk a0_0 a0_1 a0_2 a0_3 a0_4) (fun r0 => k (.b r0))
 | _ => False
theorem zaw {A A2 : T_glue_isURLFunction} (h : FnOK syo Tryz.prog GT (ovD ro) ro 55 (Jd A)) (hA : ∀ a0 K, A2 a0 K → A a0 K) : FnOK syo Tryz.prog GT (ovD ro) ro 55 (Jd A2) := h.weak (by
 intro us k h
 unfold Jd at h ⊢
 split at h
 ·exact hA _ _ h
 ·exact h.elim)
def JD (A99 : T_i_Alike) (a0 : Tok) (K : Bool → Prop) : Prop :=
 (((decide (a0.kind = 2)) = true → (A99 a0.text ([117, 114, 108] : Bt) (fun y1 => K y1))) ∧ ((decide (a0.kind = 2)) = false → K false))
def JS (A99 : T_i_Alike) : jg sg := tab [(99, con [none, none] (JK A99))]
theorem jaQ (A99 : T_i_Alike) (h99 : FnOK syo Tryz.prog GT (ovD ro) ro 99 (JK A99)) (o0 : Nat → Prop) : zh syo Tryz.prog GT (ovD ro) o0 ro (JS A99) := (ja (Zb h99) jc) o0
theorem ZaQ (A99 : T_i_Alike) (a0 : Tok) (k : W → Prop) : fnT syo Tryz.prog GT (JS A99) noL Tryz.f55.ntmps (za Tryz.f55) [none] Tryz.f55.results.toList [.a [.i .u8 a0.kind, .s a0.text, .i .i64 a0.num, .s a0.unit, .b a0.flag]] k = JD A99 a0 (fun r0 => k (.b r0)) := by kernel_rfl
theorem Ja1 (A99 : T_i_Alike) (h99 : FnOK syo Tryz.prog GT (ovD ro) ro 99 (JK A99)) : FnOK syo Tryz.prog GT (ovD ro) ro 55 (Jd (JD A99)) := (Zq (rc := [none]) (f := 55) (fn := Tryz.f55) (c := za Tryz.f55) (nt := Tryz.f55.ntmps) (res := Tryz.f55.results.toList) (C := JS A99) (L := noL) (fun _ _ => rfl) Tryz.func55 (by kernel_rfl) rfl rfl (jaQ A99 h99) (Jf (l := []) (by kernel_rfl) Jc)).weak (by
 intro us k h
 unfold Jd at h
 split at h
 ·skip
  rename_i a0_0 a0_1 a0_2 a0_3 a0_4
  rw [ZaQ A99 (Tok.mk a0_0 a0_1 a0_2 a0_3 a0_4) k]
  exact h
 ·exact h.elim)
abbrev T_g_sWith := List Tok → Int → (Bool → Prop) → Prop
def J4 (A : T_g_sWith) (us : List W) (k : W → Prop) : Prop := match us with
 | [.l Cd.tok a0, .i .u8 a1] => A a0 a1 (fun r0 => k (.b r0))
 | _ => False
theorem ZcJ {A A2 : T_g_sWith} (h : FnOK syo Tryz.prog GT (ovD ro) ro 54 (J4 A)) (hA : ∀ a0 a1 K, A2 a0 a1 K → A a0 a1 K) : FnOK syo Tryz.prog GT (ovD ro) ro 54 (J4 A2) := h.weak (by
 intro us k h
 unfold J4 at h ⊢
 split at h
 ·exact hA _ _ _ h
 ·exact h.elim)
def Zcv (a0 : List Tok) (a1 : Int) (K : Bool → Prop) : Prop :=
 (((decide ((0 : Int) < (a0.length : Int))) = true → ((0 ≤ (0 : Int) ∧ (0 : Int) < (a0.length : Int)) ∧ K (decide (((a0.getD 0 (zg Cd.tok)).kind) = a1)))) ∧ ((decide ((0 : Int) < (a0.length : Int))) = false → K false))
def Jcv : jg sg := tab []
theorem JdU (o0 : Nat → Prop) : zh syo Tryz.prog GT (ovD ro) o0 ro (Jcv) := jc o0
theorem zdV (a0 : List Tok) (a1 : Int) (k : W → Prop) : fnT syo Tryz.prog GT (Jcv) noL Tryz.f54.ntmps (za Tryz.f54) [none] Tryz.f54.results.toList [.l Cd.tok a0, .i .u8 a1] k = Zcv a0 a1 (fun r0 => k (.b r0)) := by kernel_rfl
theorem zer : FnOK syo Tryz.prog GT (ovD ro) ro 54 (J4 (Zcv)) := (Zq (rc := [none]) (f := 54) (fn := Tryz.f54) (c := za Tryz.f54) (nt := Tryz.f54.ntmps) (res := Tryz.f54.results.toList) (C := Jcv) (L := noL) (fun _ _ => rfl) Tryz.func54 (by kernel_rfl) rfl rfl (JdU) (Jf (l := []) (by kernel_rfl) Jc)).weak (by
 intro us k h
 unfold J4 at h
 split at h
 ·skip
  rename_i a0 a1
  rw [zdV a0 a1 k]
  exact h
 ·exact h.elim)
abbrev T_glue_hasItsFollowers := Tok → List Tok → (Bool → Prop) → Prop
def Je (A : T_glue_hasItsFollowers) (us : List W) (k : W → Prop) : Prop := match us with
 | [.a [.i .u8 a0_0, .s a0_1, .i .i64 a0_2, .s a0_3, .b a0_4], .l Cd.tok a1] => A (Tok.mk a0_0 a0_1 a0_2 a0_3 a0_4) a1 (fun r0 => k (.b r0))
 | _ => False
theorem Jal {A A2 : T_glue_hasItsFollowers} (h : FnOK syo Tryz.prog GT (ovD ro) ro 30 (Je A)) (hA : ∀ a0 a1 K, A2 a0 a1 K → A a0 a1 K) : FnOK syo Tryz.prog GT (ovD ro) ro 30 (Je A2) := h.weak (by
 intro us k h
 unfold Je at h ⊢
 split at h
 ·exact hA _ _ _ h
 ·exact h.elim)
def zz (A53 : T_glue_isBackslash) (A54 : T_g_sWith) (A55 : T_glue_isURLFunction) (a0 : Tok) (a1 : List Tok) (K : Bool → Prop) : Prop :=
 (A53 (Tok.mk a0.kind a0.text a0.num a0.unit a0.flag) (fun y1 => ((y1 = true → (A54 a1 (13 : Int) (fun y2 => K y2))) ∧ (y1 = false → (A55 (Tok.mk a0.kind a0.text a0.num a0.unit a0.flag) (fun y3 => ((y3 = true → (A54 a1 (13 : Int) (fun y4 => ((y4 = true → ((0 ≤ (1 : Int) ∧ (1 : Int) ≤ (a1.length : Int)) ∧ (A54 (a1.drop 1) (5 : Int) (fun y5 => K y5)))) ∧ (y4 = false → (A54 a1 (5 : Int) (fun y6 => K y6))))))) ∧ (y3 = false → K true))))))))
def zM (A53 : T_glue_isBackslash) (A54 : T_g_sWith) (A55 : T_glue_isURLFunction) : jg sg := tab [(53, con [none] (zd A53)), (54, con [some Cd.tok, none] (J4 A54)), (55, con [none] (Jd A55))]
theorem jaC (A53 : T_glue_isBackslash) (A54 : T_g_sWith) (A55 : T_glue_isURLFunction) (h53 : FnOK syo Tryz.prog GT (ovD ro) ro 53 (zd A53)) (h54 : FnOK syo Tryz.prog GT (ovD ro) ro 54 (J4 A54)) (h55 : FnOK syo Tryz.prog GT (ovD ro) ro 55 (Jd A55)) (o0 : Nat → Prop) : zh syo Tryz.prog GT (ovD ro) o0 ro (zM A53 A54 A55) := (ja (Zb h53) (ja (Zb h54) (ja (Zb h55) jc))) o0
theorem ZaC (A53 : T_glue_isBackslash) (A54 : T_g_sWith) (A55 : T_glue_isURLFunction) (a0 : Tok) (a1 : List Tok) (k : W → Prop) : fnT syo Tryz.prog GT (zM A53 A54 A55) noL Tryz.f30.ntmps (za Tryz.f30) [none] Tryz.f30.results.toList [.a [.i .u8 a0.kind, .s a0.text, .i .i64 a0.num, .s a0.unit, .b a0.flag], .l Cd.tok a1] k = zz A53 A54 A55 a0 a1 (fun r0 => k (.b r0)) := by kernel_rfl
theorem jaM (A53 : T_glue_isBackslash) (A54 : T_g_sWith) (A55 : T_glue_isURLFunction) (h53 : FnOK syo Tryz.prog GT (ovD ro) ro 53 (zd A53)) (h54 : FnOK syo Tryz.prog GT (ovD ro) ro 54 (J4 A54)) (h55 : FnOK syo Tryz.prog GT (ovD ro) ro 55 (Jd A55)) : FnOK syo Tryz.prog GT (ovD ro) ro 30 (Je (zz A53 A54 A55)) := (Zq (rc := [none]) (f := 30) (fn := Tryz.f30) (c := za Tryz.f30) (nt := Tryz.f30.ntmps) (res := Tryz.f30.results.toList) (C := zM A53 A54 A55) (L := noL) (fun _ _ => rfl) Tryz.func30 (by kernel_rfl) rfl rfl (jaC A53 A54 A55 h53 h54 h55) (Jf (l := []) (by kernel_rfl) Jc)).weak (by
 intro us k h
 unfold Je at h
 split at h
 ·skip
  rename_i a0_0 a0_1 a0_2 a0_3 a0_4 a1
  rw [ZaC A53 A54 A55 (Tok.mk a0_0 a0_1 a0_2 a0_3 a0_4) a1 k]
  exact h
 ·exact h.elim)
abbrev T_glue_Check := List Tok → (Int → Prop) → Prop
def Ju (A : T_glue_Check) (us : List W) (k : W → Prop) : Prop := match us with
 | [.l Cd.tok a0] => A a0 (fun r0 => k (.i .i64 r0))
 | _ => False
theorem ZbO {A A2 : T_glue_Check} (h : FnOK syo Tryz.prog GT (ovD ro) ro 14 (Ju A)) (hA : ∀ a0 K, A2 a0 K → A a0 K) : FnOK syo Tryz.prog GT (ovD ro) ro 14 (Ju A2) := h.weak (by
 intro us k h
 unfold Ju at h ⊢
 split at h
 ·exact hA _ _ h
 ·exact h.elim)
def Z5 (A29 : T_glue_canBeWritten) (A30 : T_glue_hasItsFollowers) : Nat → List Tok → List Tok → Int → Int → (Unit → Prop) → (Int → Prop) → Prop
 | 0, _, _, _, _, _, _ => False
 | n + 1, x0, x8, x9, x10, Ke, Kr => (((decide (x10 < x9)) = true → ((0 ≤ x10 ∧ x10 < (x8.length : Int)) ∧ (A29 (Tok.mk ((x8.getD x10.toNat (zg Cd.tok)).kind) ((x8.getD x10.toNat (zg Cd.tok)).text) ((x8.getD x10.toNat (zg Cd.tok)).num) ((x8.getD x10.toNat (zg Cd.tok)).unit) ((x8.getD x10.toNat (zg Cd.tok)).flag)) (fun y1 => (((!y1) = false → (I64 (x10 + 1) ∧ ((0 ≤ (x10 + 1) ∧ (x10 + 1) ≤ (x0.length : Int)) ∧ (A30 (Tok.mk ((x8.getD x10.toNat (zg Cd.tok)).kind) ((x8.getD x10.toNat (zg Cd.tok)).text) ((x8.getD x10.toNat (zg Cd.tok)).num) ((x8.getD x10.toNat (zg Cd.tok)).unit) ((x8.getD x10.toNat (zg Cd.tok)).flag)) (x0.drop (x10 + 1).toNat) (fun y2 => (((!y2) = true → Kr (8 : Int)) ∧ ((!y2) = false → (I64 (x10 + 1) ∧ Z5 A29 A30 n x0 x8 x9 (x10 + 1) Ke Kr)))))))) ∧ ((!y1) = true → Kr (8 : Int))))))) ∧ ((decide (x10 < x9)) = false → Ke ()))
def za2 (A29 : T_glue_canBeWritten) (A30 : T_glue_hasItsFollowers) (a0 : List Tok) (K : Int → Prop) : Prop :=
 (((decide ((1500 : Int) < (a0.length : Int))) = true → K (4 : Int)) ∧ ((decide ((1500 : Int) < (a0.length : Int))) = false → (∃ m, Z5 A29 A30 m a0 a0 (a0.length : Int) (0 : Int) (fun _ => K (0 : Int)) (fun y1 => K y1))))
def zar (A29 : T_glue_canBeWritten) (A30 : T_glue_hasItsFollowers) : jg sg := tab [(29, con [none] (Jg A29)), (30, con [none, some Cd.tok] (Je A30))]
theorem Jbg (A29 : T_glue_canBeWritten) (A30 : T_glue_hasItsFollowers) (h29 : FnOK syo Tryz.prog GT (ovD ro) ro 29 (Jg A29)) (h30 : FnOK syo Tryz.prog GT (ovD ro) ro 30 (Je A30)) (o0 : Nat → Prop) : zh syo Tryz.prog GT (ovD ro) o0 ro (zar A29 A30) := (ja (Zb h29) (ja (Zb h30) jc)) o0
def ls_glue_Check_4 : LS syo ((List (sg.Den Cd.tok)) × (List (sg.Den Cd.tok)) × Int × Int × Unit) Unit := ⟨[], Jb 0 (Jam syo Cd.tok) (Jb 8 (Jam syo Cd.tok) (Jb 9 (Ji syo .i64) (Jb 10 (Ji syo .i64) (jz syo)))), Zz syo, 0, []⟩
def le_glue_Check_4 : LS syo Unit Unit := ⟨[], jz syo, Zz syo, 0, []⟩
def lr_glue_Check_4 : LS syo (Int × Unit) Unit := ⟨[], Jb 2 (Ji syo .i64) (jz syo), Zz syo, 0, []⟩
def J5 (A29 : T_glue_canBeWritten) (A30 : T_glue_hasItsFollowers) (n : Nat) (x : ((List (sg.Den Cd.tok)) × (List (sg.Den Cd.tok)) × Int × Int × Unit) × Unit) (K : Ex → Z sg → Prop) : Prop := Z5 A29 A30 n x.1.1 x.1.2.1 x.1.2.2.1 x.1.2.2.2.1 (fun _ => K (.exit 0) (le_glue_Check_4.put ((), ()))) (fun y0 => K .ret (lr_glue_Check_4.put ((y0, ()), ())))
def JcJ (A29 : T_glue_canBeWritten) (A30 : T_glue_hasItsFollowers) (z : Z sg) (K : Ex → Z sg → Prop) : Prop := ls_glue_Check_4.get z (fun x => ∃ n, J5 A29 A30 n x K)
def ZX (A29 : T_glue_canBeWritten) (A30 : T_glue_hasItsFollowers) : zK sg := Zb8 [(4, JcJ A29 A30)]
theorem zcw (A29 : T_glue_canBeWritten) (A30 : T_glue_hasItsFollowers) (n : Nat) (x : ((List (sg.Den Cd.tok)) × (List (sg.Den Cd.tok)) × Int × Int × Unit) × Unit) (K : Ex → Z sg → Prop) : Jp (ls_glue_Check_4.put x) (fun z => sC syo Tryz.prog GT (zar A29 A30) (ZX A29 A30) Tryz.f14.ntmps (Ja (za Tryz.f14) 0) z (rnd ls_glue_Check_4 (czT 0 le_glue_Check_4 lr_glue_Check_4) (fun x => J5 A29 A30 n x K) K)) = J5 A29 A30 (n + 1) x K := by kernel_rfl
theorem jcw (A29 : T_glue_canBeWritten) (A30 : T_glue_hasItsFollowers) (z : Z sg) (K : Ex → Z sg → Prop) : (ZX A29 A30) (Ja (za Tryz.f14) 0) z K = ls_glue_Check_4.get z (fun x => ∃ n, J5 A29 A30 n x K) := by kernel_rfl
theorem Zcw (A29 : T_glue_canBeWritten) (A30 : T_glue_hasItsFollowers) (h29 : FnOK syo Tryz.prog GT (ovD ro) ro 29 (Jg A29)) (h30 : FnOK syo Tryz.prog GT (ovD ro) ro 30 (Je A30)) : ∀ (o0 : Nat → Prop) (B : Bs sg), B.E.length ≤ 0 → ∀ z K, (ZX A29 A30) (Ja (za Tryz.f14) 0) z K → Sx.Sem syo Tryz.prog GT (ovD ro) o0 ro Tryz.f14.ntmps B (.loop (Ja (za Tryz.f14) 0)) z K :=
 Jy (Jbg A29 A30 h29 h30) (Jf (l := []) (by kernel_rfl) Jc) ls_glue_Check_4 (by decide) (czT 0 le_glue_Check_4 lr_glue_Check_4) (fun _ _ hB => ZO 0 le_glue_Check_4 lr_glue_Check_4 (Nat.le_trans hB (by decide)) (Nat.le_trans hB (by decide))) (fun _ _ h => h) (zcw A29 A30) (jcw A29 A30)
theorem zdb (A29 : T_glue_canBeWritten) (A30 : T_glue_hasItsFollowers) (h29 : FnOK syo Tryz.prog GT (ovD ro) ro 29 (Jg A29)) (h30 : FnOK syo Tryz.prog GT (ovD ro) ro 30 (Je A30)) : jbH syo Tryz.prog GT (ovD ro) ro (ZX A29 A30) 0 Tryz.f14.ntmps (za Tryz.f14) := Jf (l := [(Ja (za Tryz.f14) 0)]) (by kernel_rfl) (Zy (Zcw A29 A30 h29 h30) Jc)
theorem zcK (A29 : T_glue_canBeWritten) (A30 : T_glue_hasItsFollowers) (a0 : List Tok) (k : W → Prop) : fnT syo Tryz.prog GT (zar A29 A30) (ZX A29 A30) Tryz.f14.ntmps (za Tryz.f14) [none] Tryz.f14.results.toList [.l Cd.tok a0] k = za2 A29 A30 a0 (fun r0 => k (.i .i64 r0)) := by kernel_rfl
theorem jdb (A29 : T_glue_canBeWritten) (A30 : T_glue_hasItsFollowers) (h29 : FnOK syo Tryz.prog GT (ovD ro) ro 29 (Jg A29)) (h30 : FnOK syo Tryz.prog GT (ovD ro) ro 30 (Je A30)) : FnOK syo Tryz.prog GT (ovD ro) ro 14 (Ju (za2 A29 A30)) := (Zq (rc := [none]) (f := 14) (fn := Tryz.f14) (c := za Tryz.f14) (nt := Tryz.f14.ntmps) (res := Tryz.f14.results.toList) (C := zar A29 A30) (L := (ZX A29 A30)) (fun _ _ => rfl) Tryz.func14 (by kernel_rfl) rfl rfl (Jbg A29 A30 h29 h30) (zdb A29 A30 h29 h30)).weak (by
 intro us k h
 unfold Ju at h
 split at h
 ·skip
  rename_i a0
  rw [zcK A29 A30 a0 k]
  exact h
 ·exact h.elim)
abbrev T_glue_pieceEnd := List Tok → Int → (Int → Prop) → Prop
def zm (A : T_glue_pieceEnd) (us : List W) (k : W → Prop) : Prop := match us with
 | [.l Cd.tok a0, .i .i64 a1] => A a0 a1 (fun r0 => k (.i .i64 r0))
 | _ => False
theorem Zbe {A A2 : T_glue_pieceEnd} (h : FnOK syo Tryz.prog GT (ovD ro) ro 31 (zm A)) (hA : ∀ a0 a1 K, A2 a0 a1 K → A a0 a1 K) : FnOK syo Tryz.prog GT (ovD ro) ro 31 (zm A2) := h.weak (by
 intro us k h
 unfold zm at h ⊢
 split at h
 ·exact hA _ _ _ h
 ·exact h.elim)
def JM (A53 : T_glue_isBackslash) (A55 : T_glue_isURLFunction) : Nat → List Tok → Int → (Int → Prop) → Prop
 | 0, _, _, _ => False
 | n + 1, x0, x1, Ke => ((0 ≤ x1 ∧ x1 < (x0.length : Int)) ∧ (((decide (((x0.getD x1.toNat (zg Cd.tok)).kind) ≠ (5 : Int))) = true → (I64 (x1 + 1) ∧ JM A53 A55 n x0 (x1 + 1) Ke)) ∧ ((decide (((x0.getD x1.toNat (zg Cd.tok)).kind) ≠ (5 : Int))) = false → Ke x1)))
def zam (A53 : T_glue_isBackslash) (A55 : T_glue_isURLFunction) (a0 : List Tok) (a1 : Int) (K : Int → Prop) : Prop :=
 ((0 ≤ a1 ∧ a1 < (a0.length : Int)) ∧ (A53 (Tok.mk ((a0.getD a1.toNat (zg Cd.tok)).kind) ((a0.getD a1.toNat (zg Cd.tok)).text) ((a0.getD a1.toNat (zg Cd.tok)).num) ((a0.getD a1.toNat (zg Cd.tok)).unit) ((a0.getD a1.toNat (zg Cd.tok)).flag)) (fun y1 => ((y1 = true → (I64 (a1 + 2) ∧ K (a1 + 2))) ∧ (y1 = false → ((0 ≤ a1 ∧ a1 < (a0.length : Int)) ∧ (A55 (Tok.mk ((a0.getD a1.toNat (zg Cd.tok)).kind) ((a0.getD a1.toNat (zg Cd.tok)).text) ((a0.getD a1.toNat (zg Cd.tok)).num) ((a0.getD a1.toNat (zg Cd.tok)).unit) ((a0.getD a1.toNat (zg Cd.tok)).flag)) (fun y2 => ((y2 = true → (∃ m, JM A53 A55 m a0 a1 (fun y3 => (I64 (y3 + 1) ∧ K (y3 + 1))))) ∧ (y2 = false → (I64 (a1 + 1) ∧ K (a1 + 1))))))))))))
def z6 (A53 : T_glue_isBackslash) (A55 : T_glue_isURLFunction) : jg sg := tab [(53, con [none] (zd A53)), (55, con [none] (Jd A55))]
theorem JaC (A53 : T_glue_isBackslash) (A55 : T_glue_isURLFunction) (h53 : FnOK syo Tryz.prog GT (ovD ro) ro 53 (zd A53)) (h55 : FnOK syo Tryz.prog GT (ovD ro) ro 55 (Jd A55)) (o0 : Nat → Prop) : zh syo Tryz.prog GT (ovD ro) o0 ro (z6 A53 A55) := (ja (Zb h53) (ja (Zb h55) jc)) o0
def ls_glue_pieceEnd_4 : LS syo ((List (sg.Den Cd.tok)) × Int × Unit) Unit := ⟨[], Jb 0 (Jam syo Cd.tok) (Jb 1 (Ji syo .i64) (jz syo)), Zz syo, 0, []⟩
def le_glue_pieceEnd_4 : LS syo (Int × Unit) Unit := ⟨[], Jb 1 (Ji syo .i64) (jz syo), Zz syo, 0, []⟩
def j6 : LS syo Unit Unit := ⟨[], jz syo, Zz syo, 0, []⟩
def zN (A53 : T_glue_isBackslash) (A55 : T_glue_isURLFunction) (n : Nat) (x : ((List (sg.Den Cd.tok)) × Int × Unit) × Unit) (K : Ex → Z sg → Prop) : Prop := JM A53 A55 n x.1.1 x.1.2.1 (fun y0 => K (.exit 1) (le_glue_pieceEnd_4.put ((y0, ()), ())))
def JbO (A53 : T_glue_isBackslash) (A55 : T_glue_isURLFunction) (z : Z sg) (K : Ex → Z sg → Prop) : Prop := ls_glue_pieceEnd_4.get z (fun x => ∃ n, zN A53 A55 n x K)
def JF (A53 : T_glue_isBackslash) (A55 : T_glue_isURLFunction) : zK sg := Zb8 [(4, JbO A53 A55)]
theorem ZbC (A53 : T_glue_isBackslash) (A55 : T_glue_isURLFunction) (n : Nat) (x : ((List (sg.Den Cd.tok)) × Int × Unit) × Unit) (K : Ex → Z sg → Prop) : Jp (ls_glue_pieceEnd_4.put x) (fun z => sC syo Tryz.prog GT (z6 A53 A55) (JF A53 A55) Tryz.f31.ntmps (Ja (za Tryz.f31) 0) z (rnd ls_glue_pieceEnd_4 (czT 1 le_glue_pieceEnd_4 j6) (fun x => zN A53 A55 n x K) K)) = zN A53 A55 (n + 1) x K := by kernel_rfl
theorem JbC (A53 : T_glue_isBackslash) (A55 : T_glue_isURLFunction) (z : Z sg) (K : Ex → Z sg → Prop) : (JF A53 A55) (Ja (za Tryz.f31) 0) z K = ls_glue_pieceEnd_4.get z (fun x => ∃ n, zN A53 A55 n x K) := by kernel_rfl
theorem zbD (A53 : T_glue_isBackslash) (A55 : T_glue_isURLFunction) (h53 : FnOK syo Tryz.prog GT (ovD ro) ro 53 (zd A53)) (h55 : FnOK syo Tryz.prog GT (ovD ro) ro 55 (Jd A55)) : ∀ (o0 : Nat → Prop) (B : Bs sg), B.E.length ≤ 0 → ∀ z K, (JF A53 A55) (Ja (za Tryz.f31) 0) z K → Sx.Sem syo Tryz.prog GT (ovD ro) o0 ro Tryz.f31.ntmps B (.loop (Ja (za Tryz.f31) 0)) z K :=
 Jy (JaC A53 A55 h53 h55) (Jf (l := []) (by kernel_rfl) Jc) ls_glue_pieceEnd_4 (by decide) (czT 1 le_glue_pieceEnd_4 j6) (fun _ _ hB => ZO 1 le_glue_pieceEnd_4 j6 (Nat.le_trans hB (by decide)) (Nat.le_trans hB (by decide))) (fun _ _ h => h) (ZbC A53 A55) (JbC A53 A55)
theorem Zb5 (A53 : T_glue_isBackslash) (A55 : T_glue_isURLFunction) (h53 : FnOK syo Tryz.prog GT (ovD ro) ro 53 (zd A53)) (h55 : FnOK syo Tryz.prog GT (ovD ro) ro 55 (Jd A55)) : jbH syo Tryz.prog GT (ovD ro) ro (JF A53 A55) 0 Tryz.f31.ntmps (za Tryz.f31) := Jf (l := [(Ja (za Tryz.f31) 0)]) (by kernel_rfl) (Zy (zbD A53 A55 h53 h55) Jc)
theorem zbP (A53 : T_glue_isBackslash) (A55 : T_glue_isURLFunction) (a0 : List Tok) (a1 : Int) (k : W → Prop) : fnT syo Tryz.prog GT (z6 A53 A55) (JF A53 A55) Tryz.f31.ntmps (za Tryz.f31) [none] Tryz.f31.results.toList [.l Cd.tok a0, .i .i64 a1] k = zam A53 A55 a0 a1 (fun r0 => k (.i .i64 r0)) := by kernel_rfl
theorem Jb5 (A53 : T_glue_isBackslash) (A55 : T_glue_isURLFunction) (h53 : FnOK syo Tryz.prog GT (ovD ro) ro 53 (zd A53)) (h55 : FnOK syo Tryz.prog GT (ovD ro) ro 55 (Jd A55)) : FnOK syo Tryz.prog GT (ovD ro) ro 31 (zm (zam A53 A55)) := (Zq (rc := [none]) (f := 31) (fn := Tryz.f31) (c := za Tryz.f31) (nt := Tryz.f31.ntmps) (res := Tryz.f31.results.toList) (C := z6 A53 A55) (L := (JF A53 A55)) (fun _ _ => rfl) Tryz.func31 (by kernel_rfl) rfl rfl (JaC A53 A55 h53 h55) (Zb5 A53 A55 h53 h55)).weak (by
 intro us k h
 unfold zm at h
 split at h
 ·skip
  rename_i a0 a1
  rw [zbP A53 A55 a0 a1 k]
  exact h
 ·exact h.elim)
abbrev T_slices_Equal := List Tok → List Tok → (Bool → Prop) → Prop
def Zu (A : T_slices_Equal) (us : List W) (k : W → Prop) : Prop := match us with
 | [.l Cd.tok a0, .l Cd.tok a1] => A a0 a1 (fun r0 => k (.b r0))
 | _ => False
theorem jbq {A A2 : T_slices_Equal} (h : FnOK syo Tryz.prog GT (ovD ro) ro 100 (Zu A)) (hA : ∀ a0 a1 K, A2 a0 a1 K → A a0 a1 K) : FnOK syo Tryz.prog GT (ovD ro) ro 100 (Zu A2) := h.weak (by
 intro us k h
 unfold Zu at h ⊢
 split at h
 ·exact hA _ _ _ h
 ·exact h.elim)
def JR : Nat → List Tok → List Tok → Int → Int → (Unit → Prop) → (Bool → Prop) → Prop
 | 0, _, _, _, _, _, _ => False
 | n + 1, x0, x1, x12, x13, Ke, Kr => (((decide (x13 < x12)) = true → ((0 ≤ x13 ∧ x13 < (x0.length : Int)) ∧ ((0 ≤ x13 ∧ x13 < (x1.length : Int)) ∧ (((!(decide ((x0.getD x13.toNat (zg Cd.tok)).kind = (x1.getD x13.toNat (zg Cd.tok)).kind) && ((((x0.getD x13.toNat (zg Cd.tok)).text) == ((x1.getD x13.toNat (zg Cd.tok)).text)) && (decide ((x0.getD x13.toNat (zg Cd.tok)).num = (x1.getD x13.toNat (zg Cd.tok)).num) && ((((x0.getD x13.toNat (zg Cd.tok)).unit) == ((x1.getD x13.toNat (zg Cd.tok)).unit)) && ((((x0.getD x13.toNat (zg Cd.tok)).flag) == ((x1.getD x13.toNat (zg Cd.tok)).flag)) && true)))))) = true → Kr false) ∧ ((!(decide ((x0.getD x13.toNat (zg Cd.tok)).kind = (x1.getD x13.toNat (zg Cd.tok)).kind) && ((((x0.getD x13.toNat (zg Cd.tok)).text) == ((x1.getD x13.toNat (zg Cd.tok)).text)) && (decide ((x0.getD x13.toNat (zg Cd.tok)).num = (x1.getD x13.toNat (zg Cd.tok)).num) && ((((x0.getD x13.toNat (zg Cd.tok)).unit) == ((x1.getD x13.toNat (zg Cd.tok)).unit)) && ((((x0.getD x13.toNat (zg Cd.tok)).flag) == ((x1.getD x13.toNat (zg Cd.tok)).flag)) && true)))))) = false → (I64 (x13 + 1) ∧ JR n x0 x1 x12 (x13 + 1) Ke Kr)))))) ∧ ((decide (x13 < x12)) = false → Ke ()))
def jaw (a0 : List Tok) (a1 : List Tok) (K : Bool → Prop) : Prop :=
 (((decide ((a0.length : Int) ≠ (a1.length : Int))) = true → K false) ∧ ((decide ((a0.length : Int) ≠ (a1.length : Int))) = false → (∃ m, JR m a0 a1 (a0.length : Int) (0 : Int) (fun _ => K true) (fun y1 => K y1))))
def zac : jg sg := tab []
theorem JaO (o0 : Nat → Prop) : zh syo Tryz.prog GT (ovD ro) o0 ro (zac) := jc o0
def ls_slices_Equal_4 : LS syo ((List (sg.Den Cd.tok)) × (List (sg.Den Cd.tok)) × Int × Int × Unit) Unit := ⟨[], Jb 0 (Jam syo Cd.tok) (Jb 1 (Jam syo Cd.tok) (Jb 12 (Ji syo .i64) (Jb 13 (Ji syo .i64) (jz syo)))), Zz syo, 0, []⟩
def le_slices_Equal_4 : LS syo Unit Unit := ⟨[], jz syo, Zz syo, 0, []⟩
def lr_slices_Equal_4 : LS syo (Bool × Unit) Unit := ⟨[], Jb 4 (jO syo) (jz syo), Zz syo, 0, []⟩
def zS (n : Nat) (x : ((List (sg.Den Cd.tok)) × (List (sg.Den Cd.tok)) × Int × Int × Unit) × Unit) (K : Ex → Z sg → Prop) : Prop := JR n x.1.1 x.1.2.1 x.1.2.2.1 x.1.2.2.2.1 (fun _ => K (.exit 0) (le_slices_Equal_4.put ((), ()))) (fun y0 => K .ret (lr_slices_Equal_4.put ((y0, ()), ())))
def zb6 (z : Z sg) (K : Ex → Z sg → Prop) : Prop := ls_slices_Equal_4.get z (fun x => ∃ n, zS n x K)
def jL : zK sg := Zb8 [(4, zb6)]
theorem jbP (n : Nat) (x : ((List (sg.Den Cd.tok)) × (List (sg.Den Cd.tok)) × Int × Int × Unit) × Unit) (K : Ex → Z sg → Prop) : Jp (ls_slices_Equal_4.put x) (fun z => sC syo Tryz.prog GT (zac) (jL) Tryz.f100.ntmps (Ja (za Tryz.f100) 0) z (rnd ls_slices_Equal_4 (czT 0 le_slices_Equal_4 lr_slices_Equal_4) (fun x => zS n x K) K)) = zS (n + 1) x K := by kernel_rfl
theorem ZbP (z : Z sg) (K : Ex → Z sg → Prop) : (jL) (Ja (za Tryz.f100) 0) z K = ls_slices_Equal_4.get z (fun x => ∃ n, zS n x K) := by kernel_rfl
theorem JbP : ∀ (o0 : Nat → Prop) (B : Bs sg), B.E.length ≤ 0 → ∀ z K, (jL) (Ja (za Tryz.f100) 0) z K → Sx.Sem syo Tryz.prog GT (ovD ro) o0 ro Tryz.f100.ntmps B (.loop (Ja (za Tryz.f100) 0)) z K :=
 Jy (JaO) (Jf (l := []) (by kernel_rfl) Jc) ls_slices_Equal_4 (by decide) (czT 0 le_slices_Equal_4 lr_slices_Equal_4) (fun _ _ hB => ZO 0 le_slices_Equal_4 lr_slices_Equal_4 (Nat.le_trans hB (by decide)) (Nat.le_trans hB (by decide))) (fun _ _ h => h) (jbP) (ZbP)
theorem Jcw : jbH syo Tryz.prog GT (ovD ro) ro (jL) 0 Tryz.f100.ntmps (za Tryz.f100) := Jf (l := [(Ja (za Tryz.f100) 0)]) (by kernel_rfl) (Zy (JbP) Jc)
theorem jb6 (a0 : List Tok) (a1 : List Tok) (k : W → Prop) : fnT syo Tryz.prog GT (zac) (jL) Tryz.f100.ntmps (za Tryz.f100) [none] Tryz.f100.results.toList [.l Cd.tok a0, .l Cd.tok a1] k = jaw a0 a1 (fun r0 => k (.b r0)) := by kernel_rfl
theorem zcx : FnOK syo Tryz.prog GT (ovD ro) ro 100 (Zu (jaw)) := (Zq (rc := [none]) (f := 100) (fn := Tryz.f100) (c := za Tryz.f100) (nt := Tryz.f100.ntmps) (res := Tryz.f100.results.toList) (C := zac) (L := (jL)) (fun _ _ => rfl) Tryz.func100 (by kernel_rfl) rfl rfl (JaO) (Jcw)).weak (by
 intro us k h
 unfold Zu at h
 split at h
 ·skip
  rename_i a0 a1
  rw [jb6 a0 a1 k]
  exact h
 ·exact h.elim)
abbrev T_glue_isReadAs := Bt → List Tok → (Bool → Prop) → Prop
def Zk (A : T_glue_isReadAs) (us : List W) (k : W → Prop) : Prop := match us with
 | [.s a0, .l Cd.tok a1] => A a0 a1 (fun r0 => k (.b r0))
 | _ => False
theorem Jbe {A A2 : T_glue_isReadAs} (h : FnOK syo Tryz.prog GT (ovD ro) ro 57 (Zk A)) (hA : ∀ a0 a1 K, A2 a0 a1 K → A a0 a1 K) : FnOK syo Tryz.prog GT (ovD ro) ro 57 (Zk A2) := h.weak (by
 intro us k h
 unfold Zk at h ⊢
 split at h
 ·exact hA _ _ _ h
 ·exact h.elim)
def jam (A25 : T_TokensA) (A100 : T_slices_Equal) (a0 : Bt) (a1 : List Tok) (K : Bool → Prop) : Prop :=
 (A25 a0 (fun y1 y2 => (((decide (y2 = 0)) = true → (A100 y1 a1 (fun y3 => K y3))) ∧ ((decide (y2 = 0)) = false → K false))))
def Zam (A25 : T_TokensA) (A100 : T_slices_Equal) : jg sg := tab [(25, con [none] (Z2 A25)), (100, con [some Cd.tok, some Cd.tok] (Zu A100))]
theorem zbQ (A25 : T_TokensA) (A100 : T_slices_Equal) (h25 : FnOK syo Tryz.prog GT (ovD ro) ro 25 (Z2 A25)) (h100 : FnOK syo Tryz.prog GT (ovD ro) ro 100 (Zu A100)) (o0 : Nat → Prop) : zh syo Tryz.prog GT (ovD ro) o0 ro (Zam A25 A100) := (ja (Zb h25) (ja (Zb h100) jc)) o0
theorem jbQ (A25 : T_TokensA) (A100 : T_slices_Equal) (a0 : Bt) (a1 : List Tok) (k : W → Prop) : fnT syo Tryz.prog GT (Zam A25 A100) noL Tryz.f57.ntmps (za Tryz.f57) [none] Tryz.f57.results.toList [.s a0, .l Cd.tok a1] k = jam A25 A100 a0 a1 (fun r0 => k (.b r0)) := by kernel_rfl
theorem Zb6 (A25 : T_TokensA) (A100 : T_slices_Equal) (h25 : FnOK syo Tryz.prog GT (ovD ro) ro 25 (Z2 A25)) (h100 : FnOK syo Tryz.prog GT (ovD ro) ro 100 (Zu A100)) : FnOK syo Tryz.prog GT (ovD ro) ro 57 (Zk (jam A25 A100)) := (Zq (rc := [none]) (f := 57) (fn := Tryz.f57) (c := za Tryz.f57) (nt := Tryz.f57.ntmps) (res := Tryz.f57.results.toList) (C := Zam A25 A100) (L := noL) (fun _ _ => rfl) Tryz.func57 (by kernel_rfl) rfl rfl (zbQ A25 A100 h25 h100) (Jf (l := []) (by kernel_rfl) Jc)).weak (by
 intro us k h
 unfold Zk at h
 split at h
 ·skip
  rename_i a0 a1
  rw [jbQ A25 A100 a0 a1 k]
  exact h
 ·exact h.elim)
end Go.Proofs.YtkokbidbmidlbaaGreatDoor
